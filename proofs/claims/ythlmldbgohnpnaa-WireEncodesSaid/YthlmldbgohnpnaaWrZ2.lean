/- wire: the document's Bytes of three operations, by contract (WrZ3, WrZ6, WrZ7). -/
import Derived.Test.YthlmldbgohnpnaaWrZ1
namespace Go.Proofs.Ythlmldbgohnpnaa
section
set_option linter.unusedVariables false
set_option linter.unusedSimpArgs false
open Go.RowKit
section
attribute [local go_sem ↓] to_ldQ to_stQ to_ldV eq_req
set_option maxRecDepth 100000 in
set_option maxHeartbeats 16000000 in
theorem rbytes_3 (r : Rq) (hr : r.Ok) (w : World) (hk : r.op = 3) (hm : r.m ≤ 64) (ht : r.text.length ≤ 512) : Calls Try.prog 12 #[.agg r.cs] w fun e w' => RByP r w e w' := by
  have HR := Lib.hid hr
  have HTH := Lib.hid (fun w => there19_any r.op w)
  rw [decide_eq_true (show 1 ≤ r.op ∧ r.op ≤ 19 by omega), hk] at HTH
  have e0 : r.cs[0]? = some (.int .i64 3) := by rw [← hk]; rfl
  have e1 : r.cs[1]? = some (.int .i64 r.ten) := rfl
  have e2 : r.cs[2]? = some (.int .i64 r.usr) := rfl
  have e3 : r.cs[3]? = some (.int .u64 (r.sec : Int)) := rfl
  have e4 : r.cs[4]? = some (.int .i64 r.m) := rfl
  have e5 : r.cs[5]? = some (.int .i64 r.who) := rfl
  have e6 : r.cs[6]? = some (.int .i64 r.role) := rfl
  have e7 : r.cs[7]? = some (.int .i64 r.tier) := rfl
  have e8 : r.cs[8]? = some (.int .i64 r.quota) := rfl
  have e9 : r.cs[9]? = some (.string (bs r.text)) := rfl
  have e10 : r.cs[10]? = some (.int .i64 r.rights) := rfl
  have e11 : r.cs[11]? = some (.int .i64 r.zoom) := rfl
  have e12 : r.cs[12]? = some (.int .i64 r.x0) := rfl
  have e13 : r.cs[13]? = some (.int .i64 r.y0) := rfl
  have e14 : r.cs[14]? = some (.int .i64 r.x1) := rfl
  have e15 : r.cs[15]? = some (.int .i64 r.y1) := rfl
  have e16 : r.cs[16]? = some (.int .i64 r.til) := rfl
  have e17 : r.cs[17]? = some (.int .u64 (r.oth : Int)) := rfl
  have e18 : r.cs[18]? = some (.int .i64 r.k) := rfl
  have e19 : r.cs[19]? = some (.int .u64 (r.area : Int)) := rfl
  have e20 : r.cs[20]? = some (.int .i64 r.px) := rfl
  have e21 : r.cs[21]? = some (.int .i64 r.py) := rfl
  have e22 : r.cs[22]? = some (.int .i64 r.lab) := rfl
  have e23 : r.cs[23]? = some (.int .i64 r.fro) := rfl
  have HKE := Lib.hid (refK_eq r 3 hk)
  have HWE := Lib.hid (refW_eq r 3 hk)
  have HOK := Lib.hid (fun h => refOk_eq (r := r) (by omega) hm ht h)
  have HOM := Lib.hid (show r.op = 3 from hk)
  have HTX := Lib.hid ht
  have hnm : ¬ 64 < r.m := by omega
  have hnt : ¬ (512 : Int) < ((bs r.text).size : Int) := by rw [bs_size]; omega
  have k0 := (Blk.new w TQ r.cs).cell 0; simp only [e0] at k0
  have k1 := (Blk.new w TQ r.cs).cell 1; simp only [e1] at k1
  have k2 := (Blk.new w TQ r.cs).cell 2; simp only [e2] at k2
  have k4 := (Blk.new w TQ r.cs).cell 4; simp only [e4] at k4
  have k9 := (Blk.new w TQ r.cs).cell 9; simp only [e9] at k9
  obtain ⟨W1, hW1⟩ : ∃ W1, W1 = ((w.alloc (.cells r.cs TQ)).alloc (.cells #[.int .i64 3, .int .i64 r.ten, .int .i64 r.usr] 3)).alloc (.cells #[.int .i64 1, .int .i64 1, .int .i64 2] 3) := ⟨_, rfl⟩
  have HB1 := Lib.hid (show Below w.heap.size w W1 by rw [hW1]; exact (((Below.refl _ _).alloc (Nat.le_refl _) _).alloc (by simp) _).alloc (by simp; omega) _)
  have HK1 := Lib.hid (show Blk W1 w.heap.size TQ r.cs by rw [hW1]; exact ((Blk.new w TQ r.cs).alloc _).alloc _)
  have HVA := Lib.hid (show EOwn elV W1 (.slice (some ⟨w.heap.size + 1, 0, none⟩) 3 3) [r.op, r.ten, r.usr] by rw [hW1, hk]; exact EOwn.block (M := [3, r.ten, r.usr]) elV_ok ((Blk.newAt (by simp)).alloc _) rfl (by simp))
  have HFA := Lib.hid (show EOwn elW W1 (.slice (some ⟨w.heap.size + 1 + 1, 0, none⟩) 3 3) [1, 1, 2] by rw [hW1]; exact EOwn.block (M := [1, 1, 2]) elW_ok (Blk.newAt (by simp)) rfl (by simp))
  have HXN : Hid (3 = ([r.op, r.ten, r.usr] : List Int).length ∧ ([r.op, r.ten, r.usr] : List Int).length ≤ ([1, 1, 2] : List Nat).length ∧ (3 : Nat) ≤ 10) := Lib.hid ⟨rfl, by simp, by decide⟩
  have HKS : Hid (∀ x ∈ ([1, 1, 2] : List Nat), 1 ≤ x ∧ x ≤ 8) := Lib.hid (by decide)
  have HNV : Hid (∀ (i : Nat), (Value.slice (some ⟨w.heap.size + 1, 0, none⟩) 3 3).ownBlock = some i → (Value.slice none 0 0).ownBlock = some i → False) := Lib.hid (fun i _ h => by simp [Value.ownBlock] at h)
  have HNF : Hid (∀ (i : Nat), (Value.slice (some ⟨w.heap.size + 1 + 1, 0, none⟩) 3 3).ownBlock = some i → (Value.slice none 0 0).ownBlock = some i → False) := Lib.hid (fun i _ h => by simp [Value.ownBlock] at h)
  have HF0 := Lib.hid (FBy.nil_ W1 W1 (Below.refl _ _))
  have HL0 : Hid (([] : Bs).length ≤ 0) := Lib.hid (by simp)
  have HZ1 : Hid ((([r.op, r.ten, r.usr] : List Int).zip [1, 1, 2]).take 3 = [(r.op, 1), (r.ten, 1), (r.usr, 2)]) := Lib.hid rfl
  have hWs := hW1.symm
  clear hW1
  go_enter Try.func12, Try.ntmps12
  go_wp2_with fail
  refine (HTH.out _).mono ?_
  rintro e w0 ⟨rfl, hw0⟩
  subst hw0
  go_wp2_with fail
  go_loopw [4, 7, 8, 9] (fun bq okq fq iq wr => ∃ (j : Nat) (f : Bool), j ≤ 3 ∧ iq = .int .i64 j ∧ fq = .bool f ∧ (∃ o : Bool, okq = .bool o) ∧ Hid (f = (true && datK ((([r.op, r.ten, r.usr] : List Int).zip ([1, 1, 2] : List Nat)).take j))) ∧ Hid (Ap W1 W1 (Value.slice none 0 0) (([] : Bs) ++ datB ((([r.op, r.ten, r.usr] : List Int).zip ([1, 1, 2] : List Nat)).take j)) bq wr)) (fun _ _ _ i _ => 3 - (intOf i).toNat)
  case atStart => exact ⟨0, _, Nat.zero_le _, rfl, rfl, ⟨_, rfl⟩, by simp [datK, Hid], by simpa [datB, Hid] using Ap.refl HF0.out⟩
  case round =>
    rename World => wr
    obtain ⟨j, f, hj, rfl, rfl, ⟨o, rfl⟩, HFL, HA⟩ := hrel
    by_cases hlt : j < 3
    · have hj1 : j < (([r.op, r.ten, r.usr] : List Int)).length := by have := HXN.out; omega
      have hj2 : j < (([1, 1, 2] : List Nat)).length := by have := HXN.out; omega
      have HZS := Lib.hid (zip_step (([r.op, r.ten, r.usr] : List Int)) (([1, 1, 2] : List Nat)) j hj1 hj2)
      have HX0 := Lib.hid (List.getElem?_eq_getElem hj1)
      have HY0 := Lib.hid (List.getElem?_eq_getElem hj2)
      have HK8 := Lib.hid (HKS.out _ (List.getElem_mem hj2))
      have HLQ : Hid ((([] : Bs) ++ datB ((([r.op, r.ten, r.usr] : List Int).zip ([1, 1, 2] : List Nat)).take j)).length ≤ 1000) := Lib.hid (by have h1 := zip_le (([r.op, r.ten, r.usr] : List Int)) (([1, 1, 2] : List Nat)) (fun x hx => (HKS.out x hx).2) j; have h2 := HL0.out; have h3 := HXN.out; rw [List.length_append]; omega)
      have HB1 := Lib.hid (datB_snoc ((([r.op, r.ten, r.usr] : List Int).zip ([1, 1, 2] : List Nat)).take j) ((([r.op, r.ten, r.usr] : List Int))[j], (([1, 1, 2] : List Nat))[j]))
      have HK1 := Lib.hid (datK_snoc ((([r.op, r.ten, r.usr] : List Int).zip ([1, 1, 2] : List Nat)).take j) ((([r.op, r.ten, r.usr] : List Int))[j], (([1, 1, 2] : List Nat))[j]))
      rw [← HZS.out] at HB1 HK1
      have HBQ : Hid (([] : Bs) ++ datB ((([r.op, r.ten, r.usr] : List Int).zip ([1, 1, 2] : List Nat)).take (j + 1)) = (([] : Bs) ++ datB ((([r.op, r.ten, r.usr] : List Int).zip ([1, 1, 2] : List Nat)).take j)) ++ wputB (([r.op, r.ten, r.usr] : List Int))[j] (([1, 1, 2] : List Nat))[j]) := Lib.hid (by rw [HB1.out, List.append_assoc])
      have HKQ : Hid ((true && datK ((([r.op, r.ten, r.usr] : List Int).zip ([1, 1, 2] : List Nat)).take (j + 1))) = (f && wputK (([r.op, r.ten, r.usr] : List Int))[j] (([1, 1, 2] : List Nat))[j])) := Lib.hid (by rw [HK1.out, HFL.out, Bool.and_assoc])
      clear HB1 HK1 HZS HFL
      generalize (([r.op, r.ten, r.usr] : List Int))[j] = x at *
      generalize (([1, 1, 2] : List Nat))[j] = k at *
      clear hj1 hj2
      generalize (([] : Bs) ++ datB ((([r.op, r.ten, r.usr] : List Int).zip ([1, 1, 2] : List Nat)).take j)) = Q at *
      have HPU := Lib.hid (fun (X : World) (v : Value) (hX : FBy W1 v Q X) => wput_any W1 X v Q x k HK8.out.1 HK8.out.2 hX (by have := HLQ.out; omega))
      generalize wputK x k = o2 at *
      have HS := Lib.hid (fun (w' : World) (Q' : Bs) (v' : Value) (h : Ap W1 W1 (Value.slice none 0 0) Q' v' w') => And.intro (show w'.cell? ⟨w.heap.size + 1, j, none⟩ = some (.int .i64 x) from (HVA.out.keep fun i hi e => h.keep i hi (fun e2 => HNV.out i e e2)).vcell HX0.out) (show w'.cell? ⟨w.heap.size + 1 + 1, j, none⟩ = some (.int .i64 (k : Int)) from (HFA.out.keep fun i hi e => h.keep i hi (fun e2 => HNF.out i e e2)).wcell HY0.out))
      obtain ⟨kx, kk⟩ := HS.out _ _ _ HA.out
      go_upto_region 11 with fail
      go_region_held3 (fun w' => w'.cell? ⟨w.heap.size + 1, j, none⟩ = some (.int .i64 x) ∧ w'.cell? ⟨w.heap.size + 1 + 1, j, none⟩ = some (.int .i64 (k : Int))) (first | (exact HS.out _ _ _ (by first | (with_reducible exact HA9.out) | (with_reducible exact HA.out) | exact HA.out.below (by first | exact Below.refl _ _ | (go_grown; done) | exact below_drawn (Below.refl _ _) _))) | go_keep) (first | (go_at_call 27; refine (HPU.out _ _ (HA.out.f.below (by first | exact Below.refl _ _ | (go_grown; done) | exact below_drawn (Below.refl _ _) _))).mono ?_; rintro e w9 ⟨v9, rfl, ha9⟩; have haX := HA.out.step (Ap.pre (w := wr) (by first | exact Below.refl _ _ | (go_grown; done) | exact below_drawn (Below.refl _ _) _) ha9); have HA9 := Lib.hid haX))
      all_goals
        cases f
        · go_wp2_with fail
          go_roundw
          case rel => exact ⟨j + 1, _, by omega, by go_num, rfl, ⟨_, rfl⟩, Lib.hid (by rw [HKQ.out]; rfl), Lib.hid (by rw [HBQ.out]; exact HA9.out)⟩
          case measure => simp [intOf]; omega
        · go_wp2_with fail
          go_roundw
          case rel => exact ⟨j + 1, _, by omega, by go_num, rfl, ⟨_, rfl⟩, Lib.hid (by rw [HKQ.out]; rfl), Lib.hid (by rw [HBQ.out]; exact HA9.out)⟩
          case measure => simp [intOf]; omega
    · obtain rfl : j = 3 := by omega
      rw [HZ1.out, List.nil_append] at HA
      rw [HZ1.out, Bool.true_and] at HFL
      clear HXN HKS HNV HNF HL0 HZ1 HVA HFA
      obtain ⟨PS, hPS⟩ : ∃ PS, PS = be 8 r.sec := ⟨_, rfl⟩
      have HPS := Lib.hid hPS
      have HPL : Hid (8 = PS.length) := Lib.hid (by rw [hPS, be_length])
      have HPP := Lib.hid (fun w => refput_any 8 r.sec (by decide) (by decide) HR.out.sec w)
      unfold RPost at HPP
      rw [← hPS] at HPP
      have HQ1 : Hid ((datB [(r.op, 1), (r.ten, 1), (r.usr, 2)]).length ≤ 24) := Lib.hid (datB_le _ (by simp))
      obtain ⟨Q1, hQ1⟩ : ∃ Q1, Q1 = datB [(r.op, 1), (r.ten, 1), (r.usr, 2)] := ⟨_, rfl⟩
      have HQE := Lib.hid hQ1
      rw [← hQ1] at HA HQ1
      obtain ⟨F1, hF1⟩ : ∃ F1, F1 = datK [(r.op, 1), (r.ten, 1), (r.usr, 2)] := ⟨_, rfl⟩
      rw [← hF1] at HFL
      have HF1 := Lib.hid hF1
      clear hPS hQ1 hF1
      have k3 := (HK1.out.thru0 HA.out.f.bel).cell 3; simp only [e3] at k3
      have HFA := Lib.hid HA.out.f
      clear HA
      go_wp2_with fail
      refine (HPP.out _).mono ?_
      rintro e w2 ⟨l, rfl, hown, hb⟩
      obtain ⟨g, cap, cur, rfl, hgb, hbl, hce⟩ := own_cells hown (by decide)
      have HBK := Lib.hid hbl
      have HCE := Lib.hid hce
      have HVG : Hid (u4.ownBlock ≠ some g) := Lib.hid (fun e => by have := HFA.out.own.lt e; omega)
      have HF2 := Lib.hid (HFA.out.below hb)
      clear hown hb hgb hbl hce k3 HPP
      go_wp2_with fail
      go_loopw [4, 12] (fun bq iq wr => ∃ j : Nat, j ≤ 8 ∧ iq = .int .i64 j ∧ Hid (Ap W1 w2 u4 (Q1 ++ (PS).take j) bq wr)) (fun _ i _ => 8 - (intOf i).toNat)
      case atStart => exact ⟨0, Nat.zero_le _, rfl, by simpa [Hid] using Ap.refl HF2.out⟩
      case round =>
        rename World => wr
        obtain ⟨j, hj, rfl, HA⟩ := hrel
        obtain ⟨A2, c2, hv, hl2, hm2⟩ := HA.out.f.own.slice
        by_cases hlt : j < 8
        · have hjl : j < (PS).length := by have := HPL.out; omega
          have HTK : Hid (Q1 ++ (PS).take (j + 1) = (Q1 ++ (PS).take j) ++ [(PS)[j]]) := Lib.hid (by rw [List.take_succ_eq_append_getElem hjl, List.append_assoc])
          have kc := (HA.out.blk HBK.out HVG.out).cell j
          rw [HCE.out j PS[j] (List.getElem?_eq_getElem hjl)] at kc
          generalize (PS)[j] = x at *
          have HLQ : Hid ((Q1 ++ (PS).take j).length ≤ 2000) := Lib.hid (by have h1 := HQ1.out; have h2 := HPL.out; rw [List.length_append, List.length_take]; omega)
          generalize Q1 ++ (PS).take j = Q at *
          generalize Q.length = lj at hv hl2
          subst hv
          clear hl2 hm2 hjl
          have HOW := Lib.hid (HA.out.f.own.below ((Below.refl _ _).alloc (Nat.le_refl _) (.cells #[.int .u8 (x.toNat : Int)] 5)))
          have HRM := Lib.hid (one_new2 wr x 5)
          go_wp2_with ((at_builtin; go_loud (refine wpList_eappr2 (e2 := 5) elB_ok rfl _ _ 22 22 rfl (by kernel_rfl) (by kernel_rfl) _ Q [x] (some ⟨wr.heap.size, 0, none⟩) 1 rfl rfl HOW.out HRM.out (by have := HLQ.out; simp only [maxLen, List.length_cons, List.length_nil]; omega) (by have := HLQ.out; have h1 : elB.by_ = 1 := rfl; rw [h1, List.length_cons, List.length_nil]; omega) ?_; intro v' w9 hA; have HA9 := Lib.hid (HA.out.app ((Below.refl _ _).alloc (Nat.le_refl _) _) hA); clear hA)))
          go_roundw
          case rel => exact ⟨j + 1, by omega, by go_num, Lib.hid (by rw [HTK.out]; exact HA9.out)⟩
          case measure => simp [intOf]; omega
        · obtain rfl : j = 8 := by omega
          have HT2 : Hid ((PS).take 8 = PS) := Lib.hid (List.take_of_length_le (by have := HPL.out; omega))
          rw [HT2.out] at HA hv
          clear HT2
          generalize (Q1 ++ PS).length = lj at hv hl2
          subst hv
          clear hl2 hm2
          have HFB := Lib.hid HA.out.f
          clear HA
          have HQL : Hid ((Q1 ++ PS).length ≤ 40) := Lib.hid (by rw [List.length_append]; have := HQ1.out; have := HPL.out; omega)
          have k4 := (HK1.out.thru0 HFB.out.bel).cell 4; simp only [e4] at k4
          go_wp2_with fail
          refine (wput_any W1 _ _ (Q1 ++ PS) r.m 1 (by decide) (by decide) HFB.out (by have := HQL.out; omega)).mono ?_
          rintro e w3 ⟨v3, rfl, ha3⟩
          have HF3b := Lib.hid ha3.f
          have HQL2 : Hid (((Q1 ++ PS) ++ wputB r.m 1).length ≤ 60) := Lib.hid (by have h1 := HQL.out; have h2 := wputB_le r.m 1; rw [List.length_append]; omega)
          have HQE2 : Hid ((Q1 ++ PS) ++ wputB r.m 1 = (datB [(r.op, 1), (r.ten, 1), (r.usr, 2)] ++ be 8 r.sec) ++ wputB r.m 1) := Lib.hid (by rw [HQE.out, HPS.out])
          generalize (Q1 ++ PS) ++ wputB r.m 1 = Q2 at *
          clear ha3 k4
          obtain ⟨o3, ho3⟩ : ∃ o3, o3 = wputK r.m 1 := ⟨_, rfl⟩
          have HO3 := Lib.hid ho3
          rw [← ho3]
          clear ho3
          cases f
          · have HFM : Hid (false = (F1 && o3)) := Lib.hid (by rw [← HFL.out]; rfl)
            have hld := run_ldQ (HK1.out.thru0 HF3b.out.bel)
            have k0 := (HK1.out.thru0 HF3b.out.bel).cell 0; simp only [e0] at k0
            go_wp2_with fail
            refine (rvals_any r w3).mono ?_
            rintro e w4 ⟨gv, rfl, hov, hgv, hb4⟩
            have HB4 := Lib.hid hb4
            have HOV := Lib.hid hov
            have HGV := Lib.hid hgv
            clear hld k0 hov hgv hb4
            have k0 := (HK1.out.thru0 (below_trans HF3b.out.bel HB4.out)).cell 0; simp only [e0] at k0
            go_wp2_with fail
            refine (fld_any 3 (by omega) (by omega) w4).mono ?_
            rintro e w5 ⟨gf, rfl, hof, hgf, hb5⟩
            have HB5 := Lib.hid (below_trans HB4.out hb5)
            have HOV5 := Lib.hid (HOV.out.below hb5)
            have HOF := Lib.hid hof
            have HGF := Lib.hid hgf
            have HS4 := Lib.hid HB4.out.size
            have HF5 := Lib.hid (HF3b.out.below HB5.out)
            have HVB := Lib.hid (fun i (hi : v3.ownBlock = some i) => HF3b.out.own.lt hi)
            clear k0 hof hgf hb5 HOV
            have HXL := Lib.hid (vals_len r 3 hk (by omega) (by omega))
            have HWL := Lib.hid (widL_le 3)
            generalize valsN r = XS at *
            generalize widL 3 = KS at *
            obtain ⟨nv, hnv⟩ : ∃ n, n = XS.length := ⟨_, rfl⟩
            obtain ⟨nf, hnf⟩ : ∃ n, n = KS.length := ⟨_, rfl⟩
            rw [← hnv] at HOV5 ⊢
            rw [← hnf] at HOF ⊢
            have HXN3 : Hid (nv = XS.length ∧ XS.length ≤ KS.length ∧ nv ≤ 10) := Lib.hid (by have h1 := HXL.out; have h2 := HWL.out.1; omega)
            have HKS3 : Hid (∀ x ∈ KS, 1 ≤ x ∧ x ≤ 8) := Lib.hid HWL.out.2
            have HNV3 : Hid (∀ (i : Nat), (Value.slice (some ⟨gv, 0, none⟩) nv nv).ownBlock = some i → v3.ownBlock = some i → False) := Lib.hid (fun i h1 h2 => by simp [Value.ownBlock] at h1; have h3 := HVB.out i h2; have h4 := HGV.out; omega)
            have HNF3 : Hid (∀ (i : Nat), (Value.slice (some ⟨gf, 0, none⟩) nf nf).ownBlock = some i → v3.ownBlock = some i → False) := Lib.hid (fun i h1 h2 => by simp [Value.ownBlock] at h1; have h3 := HVB.out i h2; have h4 := HGF.out; have h5 := HS4.out; omega)
            have HZ3 : Hid ((XS.zip KS).take nv = XS.zip KS) := Lib.hid (by rw [hnv]; exact zip_all XS KS HXN3.out.2.1)
            have HVF : Hid (nv ≤ nf) := Lib.hid (by have := HXN3.out; omega)
            clear hnv hnf
            go_wp2_with fail
            go_loopw [4, 7, 8, 15] (fun bq okq fq iq wr => ∃ (j : Nat) (f : Bool), j ≤ nv ∧ iq = .int .i64 j ∧ fq = .bool f ∧ (∃ o : Bool, okq = .bool o) ∧ Hid (f = (false && datK ((XS.zip KS).take j))) ∧ Hid (Ap W1 w5 v3 (Q2 ++ datB ((XS.zip KS).take j)) bq wr)) (fun _ _ _ i _ => nv - (intOf i).toNat)
            case atStart => exact ⟨0, _, Nat.zero_le _, rfl, rfl, ⟨_, rfl⟩, by simp [datK, Hid], by simpa [datB, Hid] using Ap.refl HF5.out⟩
            case round =>
              rename World => wr
              obtain ⟨j, f, hj, rfl, rfl, ⟨o, rfl⟩, HFL, HA⟩ := hrel
              by_cases hlt : j < nv
              · have hnf9 : j < nf := by have := HVF.out; omega
                have hnv9 : nv ≤ 10 := HXN3.out.2.2
                have hj1 : j < (XS).length := by have := HXN3.out; omega
                have hj2 : j < (KS).length := by have := HXN3.out; omega
                have HZS := Lib.hid (zip_step (XS) (KS) j hj1 hj2)
                have HX0 := Lib.hid (List.getElem?_eq_getElem hj1)
                have HY0 := Lib.hid (List.getElem?_eq_getElem hj2)
                have HK8 := Lib.hid (HKS3.out _ (List.getElem_mem hj2))
                have HLQ : Hid ((Q2 ++ datB ((XS.zip KS).take j)).length ≤ 1000) := Lib.hid (by have h1 := zip_le (XS) (KS) (fun x hx => (HKS3.out x hx).2) j; have h2 := HQL2.out; have h3 := HXN3.out; rw [List.length_append]; omega)
                have HB1 := Lib.hid (datB_snoc ((XS.zip KS).take j) ((XS)[j], (KS)[j]))
                have HK1 := Lib.hid (datK_snoc ((XS.zip KS).take j) ((XS)[j], (KS)[j]))
                rw [← HZS.out] at HB1 HK1
                have HBQ : Hid (Q2 ++ datB ((XS.zip KS).take (j + 1)) = (Q2 ++ datB ((XS.zip KS).take j)) ++ wputB (XS)[j] (KS)[j]) := Lib.hid (by rw [HB1.out, List.append_assoc])
                have HKQ : Hid ((false && datK ((XS.zip KS).take (j + 1))) = (f && wputK (XS)[j] (KS)[j])) := Lib.hid (by rw [HK1.out, HFL.out, Bool.and_assoc])
                clear HB1 HK1 HZS HFL
                generalize (XS)[j] = x at *
                generalize (KS)[j] = k at *
                clear hj1 hj2
                generalize (Q2 ++ datB ((XS.zip KS).take j)) = Q at *
                have HPU := Lib.hid (fun (X : World) (v : Value) (hX : FBy W1 v Q X) => wput_any W1 X v Q x k HK8.out.1 HK8.out.2 hX (by have := HLQ.out; omega))
                generalize wputK x k = o2 at *
                have HS := Lib.hid (fun (w' : World) (Q' : Bs) (v' : Value) (h : Ap W1 w5 v3 Q' v' w') => And.intro (show w'.cell? ⟨gv, j, none⟩ = some (.int .i64 x) from (HOV5.out.keep fun i hi e => h.keep i hi (fun e2 => HNV3.out i e e2)).vcell HX0.out) (show w'.cell? ⟨gf, j, none⟩ = some (.int .i64 (k : Int)) from (HOF.out.keep fun i hi e => h.keep i hi (fun e2 => HNF3.out i e e2)).wcell HY0.out))
                obtain ⟨kx, kk⟩ := HS.out _ _ _ HA.out
                go_upto_region 25 with fail
                go_region_held3 (fun w' => w'.cell? ⟨gv, j, none⟩ = some (.int .i64 x) ∧ w'.cell? ⟨gf, j, none⟩ = some (.int .i64 (k : Int))) (first | (exact HS.out _ _ _ (by first | (with_reducible exact HA9.out) | (with_reducible exact HA.out) | exact HA.out.below (by first | exact Below.refl _ _ | (go_grown; done) | exact below_drawn (Below.refl _ _) _))) | go_keep) (first | (go_at_call 27; refine (HPU.out _ _ (HA.out.f.below (by first | exact Below.refl _ _ | (go_grown; done) | exact below_drawn (Below.refl _ _) _))).mono ?_; rintro e w9 ⟨v9, rfl, ha9⟩; have haX := HA.out.step (Ap.pre (w := wr) (by first | exact Below.refl _ _ | (go_grown; done) | exact below_drawn (Below.refl _ _) _) ha9); have HA9 := Lib.hid haX))
                all_goals
                  cases f
                  · go_wp2_with fail
                    go_roundw
                    case rel => exact ⟨j + 1, _, by omega, by go_num, rfl, ⟨_, rfl⟩, Lib.hid (by rw [HKQ.out]; rfl), Lib.hid (by rw [HBQ.out]; exact HA9.out)⟩
                    case measure => simp [intOf]; omega
                  · go_wp2_with fail
                    go_roundw
                    case rel => exact ⟨j + 1, _, by omega, by go_num, rfl, ⟨_, rfl⟩, Lib.hid (by rw [HKQ.out]; rfl), Lib.hid (by rw [HBQ.out]; exact HA9.out)⟩
                    case measure => simp [intOf]; omega
              · obtain rfl : j = nv := by omega
                rw [HZ3.out] at HFL HA
                have HFL3 : Hid (f = refK r) := Lib.hid (by rw [HKE.out, HFL.out, ← HF1.out, ← HO3.out, ← HFM.out])
                have HXA := Lib.hid HA.out.f
                obtain ⟨QN, hQN⟩ : ∃ QN, QN = datB (XS.zip KS) := ⟨_, rfl⟩
                have HQN := Lib.hid hQN
                have HQN8 : Hid (QN.length ≤ 90) := Lib.hid (by rw [hQN]; have h1 := datB_le (XS.zip KS) (fun p hp => (HKS3.out p.2 (List.of_mem_zip hp).2).2); have h2 := HXN3.out; rw [List.length_zip] at h1; omega)
                rw [← hQN] at HXA
                clear hQN HA HFL
                have k19 := (HK1.out.thru0 HXA.out.bel).cell 19; simp only [e19] at k19
                have k0 := (HK1.out.thru0 HXA.out.bel).cell 0; simp only [e0] at k0
                have HP2 := Lib.hid (fun w => refput_any 8 r.area (by decide) (by decide) HR.out.area w)
                unfold RPost at HP2
                go_wp2_with fail
                refine (HP2.out _).mono ?_
                rintro e w6 ⟨l2, rfl, hown2, hb2⟩
                have HX6 := Lib.hid (HXA.out.below hb2)
                obtain ⟨g2, cap2, cur2, rfl, hgb2, hbl2, hce2⟩ := own_cells hown2 (by decide)
                have HBK2 := Lib.hid hbl2
                have HCE2 := Lib.hid hce2
                have HVG2 : Hid (u4.ownBlock ≠ some g2) := Lib.hid (fun e => by have := HXA.out.own.lt e; omega)
                obtain ⟨Q3, hQ3⟩ : ∃ x, x = Q2 ++ QN := ⟨_, rfl⟩
                have HQ3 := Lib.hid hQ3
                have HQ38 : Hid (Q3.length ≤ 160) := Lib.hid (by rw [hQ3, List.length_append]; have h1 := HQL2.out; have h2 := HQN8.out; omega)
                rw [← hQ3] at HX6
                clear hown2 hb2 hgb2 hbl2 hce2 k19 k0 HXA HP2 hQ3
                have k0 := (HK1.out.thru0 HX6.out.bel).cell 0; simp only [e0] at k0
                have k9 := (HK1.out.thru0 HX6.out.bel).cell 9; simp only [e9] at k9
                go_wp2_with fail
                refine wp_loop_rounds 1 ?_
                rw [rounds_succ]
                go_wp2_with fail
                have HNT : Hid ((bs r.text).size = r.text.length) := Lib.hid (bs_size _)
                have hnt9 : (bs r.text).size ≤ 512 := by rw [bs_size]; exact HTX.out
                have HBG : Hid (∀ (j : Nat) (h : j < r.text.length) (h2 : j < (bs r.text).size), ((bs r.text)[j]'h2).toNat = r.text[j].toNat) := Lib.hid (fun j h h2 => rfl)
                clear k0 k9
                go_loopw [4, 18] (fun bq iq wr => ∃ j : Nat, j ≤ (bs r.text).size ∧ iq = .int .i64 j ∧ Hid (Ap W1 w6 u4 (Q3 ++ (r.text).take j) bq wr)) (fun _ i _ => (bs r.text).size - (intOf i).toNat)
                case atStart => exact ⟨0, Nat.zero_le _, rfl, by simpa [Hid] using Ap.refl HX6.out⟩
                case round =>
                  rename World => wr
                  obtain ⟨j, hj, rfl, HA⟩ := hrel
                  obtain ⟨A2, c2, hv, hl2, hm2⟩ := HA.out.f.own.slice
                  by_cases hlt : j < (bs r.text).size
                  · have hjl : j < (r.text).length := by have := HNT.out; omega
                    have HTK : Hid (Q3 ++ (r.text).take (j + 1) = (Q3 ++ (r.text).take j) ++ [(r.text)[j]]) := Lib.hid (by rw [List.take_succ_eq_append_getElem hjl, List.append_assoc])
                    have hjs : j < (bs r.text).size := by rw [bs_size]; exact hjl
                    have hgx := HBG.out j hjl hjs
                    have hix : ∀ (w : World), (Instr.index 9 (.string (bs r.text)) (.int .i64 (j : Int))).run Try.prog w = .ok (.int .u8 (((bs r.text)[j]'hjs).toNat : Int)) w := by
                      intro w
                      rw [run_index_string (P := Try.prog) w 9 _ _ _ Try.underlying9, dif_pos ⟨by omega, by omega⟩]
                      simp
                    rw [hgx] at hix
                    have k0 := (HK1.out.thru0 HA.out.f.bel).cell 0; simp only [e0] at k0
                    have k9 := (HK1.out.thru0 HA.out.f.bel).cell 9; simp only [e9] at k9
                    generalize (r.text)[j] = x at *
                    have HLQ : Hid ((Q3 ++ (r.text).take j).length ≤ 2000) := Lib.hid (by have h1 := HQ38.out; have h2 := HNT.out; rw [List.length_append, List.length_take]; omega)
                    generalize Q3 ++ (r.text).take j = Q at *
                    generalize Q.length = lj at hv hl2
                    subst hv
                    clear hl2 hm2 hjl
                    have HOW := Lib.hid (HA.out.f.own.below ((Below.refl _ _).alloc (Nat.le_refl _) (.cells #[.int .u8 (x.toNat : Int)] 5)))
                    have HRM := Lib.hid (one_new2 wr x 5)
                    go_wp2_with ((at_builtin; go_loud (refine wpList_eappr2 (e2 := 5) elB_ok rfl _ _ 22 22 rfl (by kernel_rfl) (by kernel_rfl) _ Q [x] (some ⟨wr.heap.size, 0, none⟩) 1 rfl rfl HOW.out HRM.out (by have := HLQ.out; simp only [maxLen, List.length_cons, List.length_nil]; omega) (by have := HLQ.out; have h1 : elB.by_ = 1 := rfl; rw [h1, List.length_cons, List.length_nil]; omega) ?_; intro v' w9 hA; have HA9 := Lib.hid (HA.out.app ((Below.refl _ _).alloc (Nat.le_refl _) _) hA); clear hA)))
                    go_roundw
                    case rel => exact ⟨j + 1, by omega, by go_num, Lib.hid (by rw [HTK.out]; exact HA9.out)⟩
                    case measure => simp [intOf]; omega
                  · obtain rfl : j = (bs r.text).size := by omega
                    have HT2 : Hid ((r.text).take (bs r.text).size = r.text) := Lib.hid (List.take_of_length_le (by have := HNT.out; omega))
                    rw [HT2.out] at HA hv
                    clear HT2
                    generalize (Q3 ++ r.text).length = lj at hv hl2
                    subst hv
                    clear hl2 hm2
                    have HX := Lib.hid HA.out.f
                    clear HA
                    have k0 := (HK1.out.thru0 HX.out.bel).cell 0; simp only [e0] at k0
                    have k9 := (HK1.out.thru0 HX.out.bel).cell 9; simp only [e9] at k9
                    have HW6 : Hid ((Q3 ++ r.text) = refW r) := Lib.hid (by rw [HWE.out, ← HQE2.out, HQ3.out, HQN.out]; simp [tailW])
                    obtain ⟨A6, c6, hv6, hl6, hm6⟩ := HX.out.own.slice
                    obtain ⟨QQ, hqq⟩ : ∃ x, x = (Q3 ++ r.text) := ⟨_, rfl⟩
                    rw [← hqq] at HW6 HX hv6 hl6
                    clear hqq
                    obtain ⟨nq, hnq⟩ : ∃ n, n = QQ.length := ⟨_, rfl⟩
                    rw [← hnq] at hv6 hl6
                    clear hnq
                    first | subst hv6 | (injection hv6 with ea eb ec; subst ea; subst eb; subst ec)
                    cases f
                    · have HKF : Hid (refOk r = false) := Lib.hid (refOk_no HFL3.out.symm)
                      have HBE := Lib.hid (below_trans HB1.out HX.out.bel)
                      clear hl6 hm6
                      go_wp2_with fail
                      go_ret2
                      exact ⟨HBE.out, _, (by rw [HKF.out]; rfl), fun h => by rw [HKF.out] at h; cases h⟩
                    · have HKT := Lib.hid (HOK.out HFL3.out.symm)
                      rw [← HW6.out] at HKT
                      have HOX := Lib.hid HX.out.own
                      have HD := Lib.hid (rdecode_any _ _ _ _ QQ hl6 hm6 (EOwn.rb HX.out.own))
                      have HBX := Lib.hid HX.out.bel
                      have HWX := Lib.hid HW6.out.symm
                      unfold DecP at HD
                      generalize decR QQ = x at *
                      obtain ⟨er, r2⟩ := x
                      simp only at HD HKT
                      clear hl6 hm6 HX
                      go_wp2_with fail
                      refine HD.out.mono ?_
                      rintro e w7 ⟨rfl, hb7⟩
                      have HB7 := Lib.hid (below_trans HBX.out hb7)
                      have HO7 := Lib.hid (HOX.out.below hb7)
                      have hst : (stQ (.pointer (some ⟨w7.heap.size, 0, none⟩)) (.agg r2.cs)).run Try.prog (w7.alloc (.cells #[.int .i64 0, .int .i64 0, .int .i64 0, .int .u64 0, .int .i64 0, .int .i64 0, .int .i64 0, .int .i64 0, .int .i64 0, .string ⟨#[]⟩, .int .i64 0, .int .i64 0, .int .i64 0, .int .i64 0, .int .i64 0, .int .i64 0, .int .i64 0, .int .u64 0, .int .i64 0, .int .u64 0, .int .i64 0, .int .i64 0, .int .i64 0, .int .i64 0] TQ)) = .ok () (w7.alloc (.cells r2.cs TQ)) := run_stQ (r := r2) (r0 := Rq.z)
                      have hb8 : Below w7.heap.size w7 (w7.alloc (.cells r2.cs TQ)) := (Below.refl _ _).alloc (Nat.le_refl _) _
                      have hl5 := run_ldQ (Blk.new w7 TQ r2.cs)
                      have hl1 := run_ldQ ((HK1.out.thru0 HB7.out).thru0 hb8)
                      have hv5 := run_ldV (Blk.new w7 TQ r2.cs)
                      have hv1 := run_ldV ((HK1.out.thru0 HB7.out).thru0 hb8)
                      have HB8 := Lib.hid (below_trans HB1.out (below_trans HB7.out hb8))
                      have HO8 := Lib.hid (HO7.out.below hb8)
                      have HP5 := Lib.hid (Blk.new w7 TQ r2.cs)
                      have HP1 := Lib.hid ((HK1.out.thru0 HB7.out).thru0 hb8)
                      clear hb7 hb8 HD HBX HOX HO7 hl5 hl1 hv5 hv1
                      by_cases he : er = 0
                      · subst he
                        cases hq : eqQ r2 r with
                        | true =>
                          have HKV : Hid (refOk r = true) := Lib.hid (by rw [HKT.out, hq]; rfl)
                          go_upto_region 42 with fail
                          have hq5 := fun q => run_ldQ (HP5.out.drewN q)
                          have hq1 := fun q => run_ldQ (HP1.out.drewN q)
                          have hq5d := run_ldQ HP5.out.drew
                          have hq1d := run_ldQ HP1.out.drew
                          go_quiet (fail)
                          rename Nat => nq9
                          go_wp2_with fail
                          go_ret2
                          exact ⟨below_drawn HB8.out nq9, _, (by rw [HKV.out]; rfl), fun _ => by rw [HWX.out]; exact HO8.out.below (below_drawn (Below.refl _ _) nq9)⟩
                        | false =>
                          have HKV : Hid (refOk r = false) := Lib.hid (by rw [HKT.out, hq, Bool.and_false])
                          go_upto_region 42 with fail
                          have hq5 := fun q => run_ldQ (HP5.out.drewN q)
                          have hq1 := fun q => run_ldQ (HP1.out.drewN q)
                          have hq5d := run_ldQ HP5.out.drew
                          have hq1d := run_ldQ HP1.out.drew
                          go_quiet (fail)
                          rename Nat => nq9
                          go_wp2_with fail
                          go_ret2
                          exact ⟨below_drawn HB8.out nq9, _, (by rw [HKV.out]; rfl), fun h => by rw [HKV.out] at h; cases h⟩
                      · have hne : (er == 0) = false := by simpa using he
                        have hnd : decide (er = 0) = false := decide_eq_false he
                        have HKV : Hid (refOk r = false) := Lib.hid (by rw [HKT.out, decide_eq_false he, Bool.false_and])
                        clear he
                        go_upto_region 42 with fail
                        go_quiet (fail)
                        rename Nat => nq9
                        go_wp2_with fail
                        go_ret2
                        exact ⟨below_drawn HB8.out nq9, _, (by rw [HKV.out]; rfl), fun h => by rw [HKV.out] at h; cases h⟩
          · have HFM : Hid (o3 = (F1 && o3)) := Lib.hid (by rw [← HFL.out]; rfl)
            have hld := run_ldQ (HK1.out.thru0 HF3b.out.bel)
            have k0 := (HK1.out.thru0 HF3b.out.bel).cell 0; simp only [e0] at k0
            go_wp2_with fail
            refine (rvals_any r w3).mono ?_
            rintro e w4 ⟨gv, rfl, hov, hgv, hb4⟩
            have HB4 := Lib.hid hb4
            have HOV := Lib.hid hov
            have HGV := Lib.hid hgv
            clear hld k0 hov hgv hb4
            have k0 := (HK1.out.thru0 (below_trans HF3b.out.bel HB4.out)).cell 0; simp only [e0] at k0
            go_wp2_with fail
            refine (fld_any 3 (by omega) (by omega) w4).mono ?_
            rintro e w5 ⟨gf, rfl, hof, hgf, hb5⟩
            have HB5 := Lib.hid (below_trans HB4.out hb5)
            have HOV5 := Lib.hid (HOV.out.below hb5)
            have HOF := Lib.hid hof
            have HGF := Lib.hid hgf
            have HS4 := Lib.hid HB4.out.size
            have HF5 := Lib.hid (HF3b.out.below HB5.out)
            have HVB := Lib.hid (fun i (hi : v3.ownBlock = some i) => HF3b.out.own.lt hi)
            clear k0 hof hgf hb5 HOV
            have HXL := Lib.hid (vals_len r 3 hk (by omega) (by omega))
            have HWL := Lib.hid (widL_le 3)
            generalize valsN r = XS at *
            generalize widL 3 = KS at *
            obtain ⟨nv, hnv⟩ : ∃ n, n = XS.length := ⟨_, rfl⟩
            obtain ⟨nf, hnf⟩ : ∃ n, n = KS.length := ⟨_, rfl⟩
            rw [← hnv] at HOV5 ⊢
            rw [← hnf] at HOF ⊢
            have HXN3 : Hid (nv = XS.length ∧ XS.length ≤ KS.length ∧ nv ≤ 10) := Lib.hid (by have h1 := HXL.out; have h2 := HWL.out.1; omega)
            have HKS3 : Hid (∀ x ∈ KS, 1 ≤ x ∧ x ≤ 8) := Lib.hid HWL.out.2
            have HNV3 : Hid (∀ (i : Nat), (Value.slice (some ⟨gv, 0, none⟩) nv nv).ownBlock = some i → v3.ownBlock = some i → False) := Lib.hid (fun i h1 h2 => by simp [Value.ownBlock] at h1; have h3 := HVB.out i h2; have h4 := HGV.out; omega)
            have HNF3 : Hid (∀ (i : Nat), (Value.slice (some ⟨gf, 0, none⟩) nf nf).ownBlock = some i → v3.ownBlock = some i → False) := Lib.hid (fun i h1 h2 => by simp [Value.ownBlock] at h1; have h3 := HVB.out i h2; have h4 := HGF.out; have h5 := HS4.out; omega)
            have HZ3 : Hid ((XS.zip KS).take nv = XS.zip KS) := Lib.hid (by rw [hnv]; exact zip_all XS KS HXN3.out.2.1)
            have HVF : Hid (nv ≤ nf) := Lib.hid (by have := HXN3.out; omega)
            clear hnv hnf
            go_wp2_with fail
            go_loopw [4, 7, 8, 15] (fun bq okq fq iq wr => ∃ (j : Nat) (f : Bool), j ≤ nv ∧ iq = .int .i64 j ∧ fq = .bool f ∧ (∃ o : Bool, okq = .bool o) ∧ Hid (f = (o3 && datK ((XS.zip KS).take j))) ∧ Hid (Ap W1 w5 v3 (Q2 ++ datB ((XS.zip KS).take j)) bq wr)) (fun _ _ _ i _ => nv - (intOf i).toNat)
            case atStart => exact ⟨0, _, Nat.zero_le _, rfl, rfl, ⟨_, rfl⟩, by simp [datK, Hid], by simpa [datB, Hid] using Ap.refl HF5.out⟩
            case round =>
              rename World => wr
              obtain ⟨j, f, hj, rfl, rfl, ⟨o, rfl⟩, HFL, HA⟩ := hrel
              by_cases hlt : j < nv
              · have hnf9 : j < nf := by have := HVF.out; omega
                have hnv9 : nv ≤ 10 := HXN3.out.2.2
                have hj1 : j < (XS).length := by have := HXN3.out; omega
                have hj2 : j < (KS).length := by have := HXN3.out; omega
                have HZS := Lib.hid (zip_step (XS) (KS) j hj1 hj2)
                have HX0 := Lib.hid (List.getElem?_eq_getElem hj1)
                have HY0 := Lib.hid (List.getElem?_eq_getElem hj2)
                have HK8 := Lib.hid (HKS3.out _ (List.getElem_mem hj2))
                have HLQ : Hid ((Q2 ++ datB ((XS.zip KS).take j)).length ≤ 1000) := Lib.hid (by have h1 := zip_le (XS) (KS) (fun x hx => (HKS3.out x hx).2) j; have h2 := HQL2.out; have h3 := HXN3.out; rw [List.length_append]; omega)
                have HB1 := Lib.hid (datB_snoc ((XS.zip KS).take j) ((XS)[j], (KS)[j]))
                have HK1 := Lib.hid (datK_snoc ((XS.zip KS).take j) ((XS)[j], (KS)[j]))
                rw [← HZS.out] at HB1 HK1
                have HBQ : Hid (Q2 ++ datB ((XS.zip KS).take (j + 1)) = (Q2 ++ datB ((XS.zip KS).take j)) ++ wputB (XS)[j] (KS)[j]) := Lib.hid (by rw [HB1.out, List.append_assoc])
                have HKQ : Hid ((o3 && datK ((XS.zip KS).take (j + 1))) = (f && wputK (XS)[j] (KS)[j])) := Lib.hid (by rw [HK1.out, HFL.out, Bool.and_assoc])
                clear HB1 HK1 HZS HFL
                generalize (XS)[j] = x at *
                generalize (KS)[j] = k at *
                clear hj1 hj2
                generalize (Q2 ++ datB ((XS.zip KS).take j)) = Q at *
                have HPU := Lib.hid (fun (X : World) (v : Value) (hX : FBy W1 v Q X) => wput_any W1 X v Q x k HK8.out.1 HK8.out.2 hX (by have := HLQ.out; omega))
                generalize wputK x k = o2 at *
                have HS := Lib.hid (fun (w' : World) (Q' : Bs) (v' : Value) (h : Ap W1 w5 v3 Q' v' w') => And.intro (show w'.cell? ⟨gv, j, none⟩ = some (.int .i64 x) from (HOV5.out.keep fun i hi e => h.keep i hi (fun e2 => HNV3.out i e e2)).vcell HX0.out) (show w'.cell? ⟨gf, j, none⟩ = some (.int .i64 (k : Int)) from (HOF.out.keep fun i hi e => h.keep i hi (fun e2 => HNF3.out i e e2)).wcell HY0.out))
                obtain ⟨kx, kk⟩ := HS.out _ _ _ HA.out
                go_upto_region 25 with fail
                go_region_held3 (fun w' => w'.cell? ⟨gv, j, none⟩ = some (.int .i64 x) ∧ w'.cell? ⟨gf, j, none⟩ = some (.int .i64 (k : Int))) (first | (exact HS.out _ _ _ (by first | (with_reducible exact HA9.out) | (with_reducible exact HA.out) | exact HA.out.below (by first | exact Below.refl _ _ | (go_grown; done) | exact below_drawn (Below.refl _ _) _))) | go_keep) (first | (go_at_call 27; refine (HPU.out _ _ (HA.out.f.below (by first | exact Below.refl _ _ | (go_grown; done) | exact below_drawn (Below.refl _ _) _))).mono ?_; rintro e w9 ⟨v9, rfl, ha9⟩; have haX := HA.out.step (Ap.pre (w := wr) (by first | exact Below.refl _ _ | (go_grown; done) | exact below_drawn (Below.refl _ _) _) ha9); have HA9 := Lib.hid haX))
                all_goals
                  cases f
                  · go_wp2_with fail
                    go_roundw
                    case rel => exact ⟨j + 1, _, by omega, by go_num, rfl, ⟨_, rfl⟩, Lib.hid (by rw [HKQ.out]; rfl), Lib.hid (by rw [HBQ.out]; exact HA9.out)⟩
                    case measure => simp [intOf]; omega
                  · go_wp2_with fail
                    go_roundw
                    case rel => exact ⟨j + 1, _, by omega, by go_num, rfl, ⟨_, rfl⟩, Lib.hid (by rw [HKQ.out]; rfl), Lib.hid (by rw [HBQ.out]; exact HA9.out)⟩
                    case measure => simp [intOf]; omega
              · obtain rfl : j = nv := by omega
                rw [HZ3.out] at HFL HA
                have HFL3 : Hid (f = refK r) := Lib.hid (by rw [HKE.out, HFL.out, ← HF1.out, ← HO3.out, ← HFM.out])
                have HXA := Lib.hid HA.out.f
                obtain ⟨QN, hQN⟩ : ∃ QN, QN = datB (XS.zip KS) := ⟨_, rfl⟩
                have HQN := Lib.hid hQN
                have HQN8 : Hid (QN.length ≤ 90) := Lib.hid (by rw [hQN]; have h1 := datB_le (XS.zip KS) (fun p hp => (HKS3.out p.2 (List.of_mem_zip hp).2).2); have h2 := HXN3.out; rw [List.length_zip] at h1; omega)
                rw [← hQN] at HXA
                clear hQN HA HFL
                have k19 := (HK1.out.thru0 HXA.out.bel).cell 19; simp only [e19] at k19
                have k0 := (HK1.out.thru0 HXA.out.bel).cell 0; simp only [e0] at k0
                have HP2 := Lib.hid (fun w => refput_any 8 r.area (by decide) (by decide) HR.out.area w)
                unfold RPost at HP2
                go_wp2_with fail
                refine (HP2.out _).mono ?_
                rintro e w6 ⟨l2, rfl, hown2, hb2⟩
                have HX6 := Lib.hid (HXA.out.below hb2)
                obtain ⟨g2, cap2, cur2, rfl, hgb2, hbl2, hce2⟩ := own_cells hown2 (by decide)
                have HBK2 := Lib.hid hbl2
                have HCE2 := Lib.hid hce2
                have HVG2 : Hid (u4.ownBlock ≠ some g2) := Lib.hid (fun e => by have := HXA.out.own.lt e; omega)
                obtain ⟨Q3, hQ3⟩ : ∃ x, x = Q2 ++ QN := ⟨_, rfl⟩
                have HQ3 := Lib.hid hQ3
                have HQ38 : Hid (Q3.length ≤ 160) := Lib.hid (by rw [hQ3, List.length_append]; have h1 := HQL2.out; have h2 := HQN8.out; omega)
                rw [← hQ3] at HX6
                clear hown2 hb2 hgb2 hbl2 hce2 k19 k0 HXA HP2 hQ3
                have k0 := (HK1.out.thru0 HX6.out.bel).cell 0; simp only [e0] at k0
                have k9 := (HK1.out.thru0 HX6.out.bel).cell 9; simp only [e9] at k9
                go_wp2_with fail
                refine wp_loop_rounds 1 ?_
                rw [rounds_succ]
                go_wp2_with fail
                have HNT : Hid ((bs r.text).size = r.text.length) := Lib.hid (bs_size _)
                have hnt9 : (bs r.text).size ≤ 512 := by rw [bs_size]; exact HTX.out
                have HBG : Hid (∀ (j : Nat) (h : j < r.text.length) (h2 : j < (bs r.text).size), ((bs r.text)[j]'h2).toNat = r.text[j].toNat) := Lib.hid (fun j h h2 => rfl)
                clear k0 k9
                go_loopw [4, 18] (fun bq iq wr => ∃ j : Nat, j ≤ (bs r.text).size ∧ iq = .int .i64 j ∧ Hid (Ap W1 w6 u4 (Q3 ++ (r.text).take j) bq wr)) (fun _ i _ => (bs r.text).size - (intOf i).toNat)
                case atStart => exact ⟨0, Nat.zero_le _, rfl, by simpa [Hid] using Ap.refl HX6.out⟩
                case round =>
                  rename World => wr
                  obtain ⟨j, hj, rfl, HA⟩ := hrel
                  obtain ⟨A2, c2, hv, hl2, hm2⟩ := HA.out.f.own.slice
                  by_cases hlt : j < (bs r.text).size
                  · have hjl : j < (r.text).length := by have := HNT.out; omega
                    have HTK : Hid (Q3 ++ (r.text).take (j + 1) = (Q3 ++ (r.text).take j) ++ [(r.text)[j]]) := Lib.hid (by rw [List.take_succ_eq_append_getElem hjl, List.append_assoc])
                    have hjs : j < (bs r.text).size := by rw [bs_size]; exact hjl
                    have hgx := HBG.out j hjl hjs
                    have hix : ∀ (w : World), (Instr.index 9 (.string (bs r.text)) (.int .i64 (j : Int))).run Try.prog w = .ok (.int .u8 (((bs r.text)[j]'hjs).toNat : Int)) w := by
                      intro w
                      rw [run_index_string (P := Try.prog) w 9 _ _ _ Try.underlying9, dif_pos ⟨by omega, by omega⟩]
                      simp
                    rw [hgx] at hix
                    have k0 := (HK1.out.thru0 HA.out.f.bel).cell 0; simp only [e0] at k0
                    have k9 := (HK1.out.thru0 HA.out.f.bel).cell 9; simp only [e9] at k9
                    generalize (r.text)[j] = x at *
                    have HLQ : Hid ((Q3 ++ (r.text).take j).length ≤ 2000) := Lib.hid (by have h1 := HQ38.out; have h2 := HNT.out; rw [List.length_append, List.length_take]; omega)
                    generalize Q3 ++ (r.text).take j = Q at *
                    generalize Q.length = lj at hv hl2
                    subst hv
                    clear hl2 hm2 hjl
                    have HOW := Lib.hid (HA.out.f.own.below ((Below.refl _ _).alloc (Nat.le_refl _) (.cells #[.int .u8 (x.toNat : Int)] 5)))
                    have HRM := Lib.hid (one_new2 wr x 5)
                    go_wp2_with ((at_builtin; go_loud (refine wpList_eappr2 (e2 := 5) elB_ok rfl _ _ 22 22 rfl (by kernel_rfl) (by kernel_rfl) _ Q [x] (some ⟨wr.heap.size, 0, none⟩) 1 rfl rfl HOW.out HRM.out (by have := HLQ.out; simp only [maxLen, List.length_cons, List.length_nil]; omega) (by have := HLQ.out; have h1 : elB.by_ = 1 := rfl; rw [h1, List.length_cons, List.length_nil]; omega) ?_; intro v' w9 hA; have HA9 := Lib.hid (HA.out.app ((Below.refl _ _).alloc (Nat.le_refl _) _) hA); clear hA)))
                    go_roundw
                    case rel => exact ⟨j + 1, by omega, by go_num, Lib.hid (by rw [HTK.out]; exact HA9.out)⟩
                    case measure => simp [intOf]; omega
                  · obtain rfl : j = (bs r.text).size := by omega
                    have HT2 : Hid ((r.text).take (bs r.text).size = r.text) := Lib.hid (List.take_of_length_le (by have := HNT.out; omega))
                    rw [HT2.out] at HA hv
                    clear HT2
                    generalize (Q3 ++ r.text).length = lj at hv hl2
                    subst hv
                    clear hl2 hm2
                    have HX := Lib.hid HA.out.f
                    clear HA
                    have k0 := (HK1.out.thru0 HX.out.bel).cell 0; simp only [e0] at k0
                    have k9 := (HK1.out.thru0 HX.out.bel).cell 9; simp only [e9] at k9
                    have HW6 : Hid ((Q3 ++ r.text) = refW r) := Lib.hid (by rw [HWE.out, ← HQE2.out, HQ3.out, HQN.out]; simp [tailW])
                    obtain ⟨A6, c6, hv6, hl6, hm6⟩ := HX.out.own.slice
                    obtain ⟨QQ, hqq⟩ : ∃ x, x = (Q3 ++ r.text) := ⟨_, rfl⟩
                    rw [← hqq] at HW6 HX hv6 hl6
                    clear hqq
                    obtain ⟨nq, hnq⟩ : ∃ n, n = QQ.length := ⟨_, rfl⟩
                    rw [← hnq] at hv6 hl6
                    clear hnq
                    first | subst hv6 | (injection hv6 with ea eb ec; subst ea; subst eb; subst ec)
                    cases f
                    · have HKF : Hid (refOk r = false) := Lib.hid (refOk_no HFL3.out.symm)
                      have HBE := Lib.hid (below_trans HB1.out HX.out.bel)
                      clear hl6 hm6
                      go_wp2_with fail
                      go_ret2
                      exact ⟨HBE.out, _, (by rw [HKF.out]; rfl), fun h => by rw [HKF.out] at h; cases h⟩
                    · have HKT := Lib.hid (HOK.out HFL3.out.symm)
                      rw [← HW6.out] at HKT
                      have HOX := Lib.hid HX.out.own
                      have HD := Lib.hid (rdecode_any _ _ _ _ QQ hl6 hm6 (EOwn.rb HX.out.own))
                      have HBX := Lib.hid HX.out.bel
                      have HWX := Lib.hid HW6.out.symm
                      unfold DecP at HD
                      generalize decR QQ = x at *
                      obtain ⟨er, r2⟩ := x
                      simp only at HD HKT
                      clear hl6 hm6 HX
                      go_wp2_with fail
                      refine HD.out.mono ?_
                      rintro e w7 ⟨rfl, hb7⟩
                      have HB7 := Lib.hid (below_trans HBX.out hb7)
                      have HO7 := Lib.hid (HOX.out.below hb7)
                      have hst : (stQ (.pointer (some ⟨w7.heap.size, 0, none⟩)) (.agg r2.cs)).run Try.prog (w7.alloc (.cells #[.int .i64 0, .int .i64 0, .int .i64 0, .int .u64 0, .int .i64 0, .int .i64 0, .int .i64 0, .int .i64 0, .int .i64 0, .string ⟨#[]⟩, .int .i64 0, .int .i64 0, .int .i64 0, .int .i64 0, .int .i64 0, .int .i64 0, .int .i64 0, .int .u64 0, .int .i64 0, .int .u64 0, .int .i64 0, .int .i64 0, .int .i64 0, .int .i64 0] TQ)) = .ok () (w7.alloc (.cells r2.cs TQ)) := run_stQ (r := r2) (r0 := Rq.z)
                      have hb8 : Below w7.heap.size w7 (w7.alloc (.cells r2.cs TQ)) := (Below.refl _ _).alloc (Nat.le_refl _) _
                      have hl5 := run_ldQ (Blk.new w7 TQ r2.cs)
                      have hl1 := run_ldQ ((HK1.out.thru0 HB7.out).thru0 hb8)
                      have hv5 := run_ldV (Blk.new w7 TQ r2.cs)
                      have hv1 := run_ldV ((HK1.out.thru0 HB7.out).thru0 hb8)
                      have HB8 := Lib.hid (below_trans HB1.out (below_trans HB7.out hb8))
                      have HO8 := Lib.hid (HO7.out.below hb8)
                      have HP5 := Lib.hid (Blk.new w7 TQ r2.cs)
                      have HP1 := Lib.hid ((HK1.out.thru0 HB7.out).thru0 hb8)
                      clear hb7 hb8 HD HBX HOX HO7 hl5 hl1 hv5 hv1
                      by_cases he : er = 0
                      · subst he
                        cases hq : eqQ r2 r with
                        | true =>
                          have HKV : Hid (refOk r = true) := Lib.hid (by rw [HKT.out, hq]; rfl)
                          go_upto_region 42 with fail
                          have hq5 := fun q => run_ldQ (HP5.out.drewN q)
                          have hq1 := fun q => run_ldQ (HP1.out.drewN q)
                          have hq5d := run_ldQ HP5.out.drew
                          have hq1d := run_ldQ HP1.out.drew
                          go_quiet (fail)
                          rename Nat => nq9
                          go_wp2_with fail
                          go_ret2
                          exact ⟨below_drawn HB8.out nq9, _, (by rw [HKV.out]; rfl), fun _ => by rw [HWX.out]; exact HO8.out.below (below_drawn (Below.refl _ _) nq9)⟩
                        | false =>
                          have HKV : Hid (refOk r = false) := Lib.hid (by rw [HKT.out, hq, Bool.and_false])
                          go_upto_region 42 with fail
                          have hq5 := fun q => run_ldQ (HP5.out.drewN q)
                          have hq1 := fun q => run_ldQ (HP1.out.drewN q)
                          have hq5d := run_ldQ HP5.out.drew
                          have hq1d := run_ldQ HP1.out.drew
                          go_quiet (fail)
                          rename Nat => nq9
                          go_wp2_with fail
                          go_ret2
                          exact ⟨below_drawn HB8.out nq9, _, (by rw [HKV.out]; rfl), fun h => by rw [HKV.out] at h; cases h⟩
                      · have hne : (er == 0) = false := by simpa using he
                        have hnd : decide (er = 0) = false := decide_eq_false he
                        have HKV : Hid (refOk r = false) := Lib.hid (by rw [HKT.out, decide_eq_false he, Bool.false_and])
                        clear he
                        go_upto_region 42 with fail
                        go_quiet (fail)
                        rename Nat => nq9
                        go_wp2_with fail
                        go_ret2
                        exact ⟨below_drawn HB8.out nq9, _, (by rw [HKV.out]; rfl), fun h => by rw [HKV.out] at h; cases h⟩
end
end
section
set_option linter.unusedVariables false
set_option linter.unusedSimpArgs false
open Go.RowKit
section
attribute [local go_sem ↓] to_ldQ to_stQ to_ldV eq_req
set_option maxRecDepth 100000 in
set_option maxHeartbeats 16000000 in
theorem rbytes_6 (r : Rq) (hr : r.Ok) (w : World) (hk : r.op = 6) (hm : r.m ≤ 64) (ht : r.text.length ≤ 512) : Calls Try.prog 12 #[.agg r.cs] w fun e w' => RByP r w e w' := by
  have HR := Lib.hid hr
  have HTH := Lib.hid (fun w => there19_any r.op w)
  rw [decide_eq_true (show 1 ≤ r.op ∧ r.op ≤ 19 by omega), hk] at HTH
  have e0 : r.cs[0]? = some (.int .i64 6) := by rw [← hk]; rfl
  have e1 : r.cs[1]? = some (.int .i64 r.ten) := rfl
  have e2 : r.cs[2]? = some (.int .i64 r.usr) := rfl
  have e3 : r.cs[3]? = some (.int .u64 (r.sec : Int)) := rfl
  have e4 : r.cs[4]? = some (.int .i64 r.m) := rfl
  have e5 : r.cs[5]? = some (.int .i64 r.who) := rfl
  have e6 : r.cs[6]? = some (.int .i64 r.role) := rfl
  have e7 : r.cs[7]? = some (.int .i64 r.tier) := rfl
  have e8 : r.cs[8]? = some (.int .i64 r.quota) := rfl
  have e9 : r.cs[9]? = some (.string (bs r.text)) := rfl
  have e10 : r.cs[10]? = some (.int .i64 r.rights) := rfl
  have e11 : r.cs[11]? = some (.int .i64 r.zoom) := rfl
  have e12 : r.cs[12]? = some (.int .i64 r.x0) := rfl
  have e13 : r.cs[13]? = some (.int .i64 r.y0) := rfl
  have e14 : r.cs[14]? = some (.int .i64 r.x1) := rfl
  have e15 : r.cs[15]? = some (.int .i64 r.y1) := rfl
  have e16 : r.cs[16]? = some (.int .i64 r.til) := rfl
  have e17 : r.cs[17]? = some (.int .u64 (r.oth : Int)) := rfl
  have e18 : r.cs[18]? = some (.int .i64 r.k) := rfl
  have e19 : r.cs[19]? = some (.int .u64 (r.area : Int)) := rfl
  have e20 : r.cs[20]? = some (.int .i64 r.px) := rfl
  have e21 : r.cs[21]? = some (.int .i64 r.py) := rfl
  have e22 : r.cs[22]? = some (.int .i64 r.lab) := rfl
  have e23 : r.cs[23]? = some (.int .i64 r.fro) := rfl
  have HKE := Lib.hid (refK_eq r 6 hk)
  have HWE := Lib.hid (refW_eq r 6 hk)
  have HOK := Lib.hid (fun h => refOk_eq (r := r) (by omega) hm ht h)
  have HOM := Lib.hid (show r.op = 6 from hk)
  have HTX := Lib.hid ht
  have hnm : ¬ 64 < r.m := by omega
  have hnt : ¬ (512 : Int) < ((bs r.text).size : Int) := by rw [bs_size]; omega
  have k0 := (Blk.new w TQ r.cs).cell 0; simp only [e0] at k0
  have k1 := (Blk.new w TQ r.cs).cell 1; simp only [e1] at k1
  have k2 := (Blk.new w TQ r.cs).cell 2; simp only [e2] at k2
  have k4 := (Blk.new w TQ r.cs).cell 4; simp only [e4] at k4
  have k9 := (Blk.new w TQ r.cs).cell 9; simp only [e9] at k9
  obtain ⟨W1, hW1⟩ : ∃ W1, W1 = ((w.alloc (.cells r.cs TQ)).alloc (.cells #[.int .i64 6, .int .i64 r.ten, .int .i64 r.usr] 3)).alloc (.cells #[.int .i64 1, .int .i64 1, .int .i64 2] 3) := ⟨_, rfl⟩
  have HB1 := Lib.hid (show Below w.heap.size w W1 by rw [hW1]; exact (((Below.refl _ _).alloc (Nat.le_refl _) _).alloc (by simp) _).alloc (by simp; omega) _)
  have HK1 := Lib.hid (show Blk W1 w.heap.size TQ r.cs by rw [hW1]; exact ((Blk.new w TQ r.cs).alloc _).alloc _)
  have HVA := Lib.hid (show EOwn elV W1 (.slice (some ⟨w.heap.size + 1, 0, none⟩) 3 3) [r.op, r.ten, r.usr] by rw [hW1, hk]; exact EOwn.block (M := [6, r.ten, r.usr]) elV_ok ((Blk.newAt (by simp)).alloc _) rfl (by simp))
  have HFA := Lib.hid (show EOwn elW W1 (.slice (some ⟨w.heap.size + 1 + 1, 0, none⟩) 3 3) [1, 1, 2] by rw [hW1]; exact EOwn.block (M := [1, 1, 2]) elW_ok (Blk.newAt (by simp)) rfl (by simp))
  have HXN : Hid (3 = ([r.op, r.ten, r.usr] : List Int).length ∧ ([r.op, r.ten, r.usr] : List Int).length ≤ ([1, 1, 2] : List Nat).length ∧ (3 : Nat) ≤ 10) := Lib.hid ⟨rfl, by simp, by decide⟩
  have HKS : Hid (∀ x ∈ ([1, 1, 2] : List Nat), 1 ≤ x ∧ x ≤ 8) := Lib.hid (by decide)
  have HNV : Hid (∀ (i : Nat), (Value.slice (some ⟨w.heap.size + 1, 0, none⟩) 3 3).ownBlock = some i → (Value.slice none 0 0).ownBlock = some i → False) := Lib.hid (fun i _ h => by simp [Value.ownBlock] at h)
  have HNF : Hid (∀ (i : Nat), (Value.slice (some ⟨w.heap.size + 1 + 1, 0, none⟩) 3 3).ownBlock = some i → (Value.slice none 0 0).ownBlock = some i → False) := Lib.hid (fun i _ h => by simp [Value.ownBlock] at h)
  have HF0 := Lib.hid (FBy.nil_ W1 W1 (Below.refl _ _))
  have HL0 : Hid (([] : Bs).length ≤ 0) := Lib.hid (by simp)
  have HZ1 : Hid ((([r.op, r.ten, r.usr] : List Int).zip [1, 1, 2]).take 3 = [(r.op, 1), (r.ten, 1), (r.usr, 2)]) := Lib.hid rfl
  have hWs := hW1.symm
  clear hW1
  go_enter Try.func12, Try.ntmps12
  go_wp2_with fail
  refine (HTH.out _).mono ?_
  rintro e w0 ⟨rfl, hw0⟩
  subst hw0
  go_wp2_with fail
  go_loopw [4, 7, 8, 9] (fun bq okq fq iq wr => ∃ (j : Nat) (f : Bool), j ≤ 3 ∧ iq = .int .i64 j ∧ fq = .bool f ∧ (∃ o : Bool, okq = .bool o) ∧ Hid (f = (true && datK ((([r.op, r.ten, r.usr] : List Int).zip ([1, 1, 2] : List Nat)).take j))) ∧ Hid (Ap W1 W1 (Value.slice none 0 0) (([] : Bs) ++ datB ((([r.op, r.ten, r.usr] : List Int).zip ([1, 1, 2] : List Nat)).take j)) bq wr)) (fun _ _ _ i _ => 3 - (intOf i).toNat)
  case atStart => exact ⟨0, _, Nat.zero_le _, rfl, rfl, ⟨_, rfl⟩, by simp [datK, Hid], by simpa [datB, Hid] using Ap.refl HF0.out⟩
  case round =>
    rename World => wr
    obtain ⟨j, f, hj, rfl, rfl, ⟨o, rfl⟩, HFL, HA⟩ := hrel
    by_cases hlt : j < 3
    · have hj1 : j < (([r.op, r.ten, r.usr] : List Int)).length := by have := HXN.out; omega
      have hj2 : j < (([1, 1, 2] : List Nat)).length := by have := HXN.out; omega
      have HZS := Lib.hid (zip_step (([r.op, r.ten, r.usr] : List Int)) (([1, 1, 2] : List Nat)) j hj1 hj2)
      have HX0 := Lib.hid (List.getElem?_eq_getElem hj1)
      have HY0 := Lib.hid (List.getElem?_eq_getElem hj2)
      have HK8 := Lib.hid (HKS.out _ (List.getElem_mem hj2))
      have HLQ : Hid ((([] : Bs) ++ datB ((([r.op, r.ten, r.usr] : List Int).zip ([1, 1, 2] : List Nat)).take j)).length ≤ 1000) := Lib.hid (by have h1 := zip_le (([r.op, r.ten, r.usr] : List Int)) (([1, 1, 2] : List Nat)) (fun x hx => (HKS.out x hx).2) j; have h2 := HL0.out; have h3 := HXN.out; rw [List.length_append]; omega)
      have HB1 := Lib.hid (datB_snoc ((([r.op, r.ten, r.usr] : List Int).zip ([1, 1, 2] : List Nat)).take j) ((([r.op, r.ten, r.usr] : List Int))[j], (([1, 1, 2] : List Nat))[j]))
      have HK1 := Lib.hid (datK_snoc ((([r.op, r.ten, r.usr] : List Int).zip ([1, 1, 2] : List Nat)).take j) ((([r.op, r.ten, r.usr] : List Int))[j], (([1, 1, 2] : List Nat))[j]))
      rw [← HZS.out] at HB1 HK1
      have HBQ : Hid (([] : Bs) ++ datB ((([r.op, r.ten, r.usr] : List Int).zip ([1, 1, 2] : List Nat)).take (j + 1)) = (([] : Bs) ++ datB ((([r.op, r.ten, r.usr] : List Int).zip ([1, 1, 2] : List Nat)).take j)) ++ wputB (([r.op, r.ten, r.usr] : List Int))[j] (([1, 1, 2] : List Nat))[j]) := Lib.hid (by rw [HB1.out, List.append_assoc])
      have HKQ : Hid ((true && datK ((([r.op, r.ten, r.usr] : List Int).zip ([1, 1, 2] : List Nat)).take (j + 1))) = (f && wputK (([r.op, r.ten, r.usr] : List Int))[j] (([1, 1, 2] : List Nat))[j])) := Lib.hid (by rw [HK1.out, HFL.out, Bool.and_assoc])
      clear HB1 HK1 HZS HFL
      generalize (([r.op, r.ten, r.usr] : List Int))[j] = x at *
      generalize (([1, 1, 2] : List Nat))[j] = k at *
      clear hj1 hj2
      generalize (([] : Bs) ++ datB ((([r.op, r.ten, r.usr] : List Int).zip ([1, 1, 2] : List Nat)).take j)) = Q at *
      have HPU := Lib.hid (fun (X : World) (v : Value) (hX : FBy W1 v Q X) => wput_any W1 X v Q x k HK8.out.1 HK8.out.2 hX (by have := HLQ.out; omega))
      generalize wputK x k = o2 at *
      have HS := Lib.hid (fun (w' : World) (Q' : Bs) (v' : Value) (h : Ap W1 W1 (Value.slice none 0 0) Q' v' w') => And.intro (show w'.cell? ⟨w.heap.size + 1, j, none⟩ = some (.int .i64 x) from (HVA.out.keep fun i hi e => h.keep i hi (fun e2 => HNV.out i e e2)).vcell HX0.out) (show w'.cell? ⟨w.heap.size + 1 + 1, j, none⟩ = some (.int .i64 (k : Int)) from (HFA.out.keep fun i hi e => h.keep i hi (fun e2 => HNF.out i e e2)).wcell HY0.out))
      obtain ⟨kx, kk⟩ := HS.out _ _ _ HA.out
      go_upto_region 11 with fail
      go_region_held3 (fun w' => w'.cell? ⟨w.heap.size + 1, j, none⟩ = some (.int .i64 x) ∧ w'.cell? ⟨w.heap.size + 1 + 1, j, none⟩ = some (.int .i64 (k : Int))) (first | (exact HS.out _ _ _ (by first | (with_reducible exact HA9.out) | (with_reducible exact HA.out) | exact HA.out.below (by first | exact Below.refl _ _ | (go_grown; done) | exact below_drawn (Below.refl _ _) _))) | go_keep) (first | (go_at_call 27; refine (HPU.out _ _ (HA.out.f.below (by first | exact Below.refl _ _ | (go_grown; done) | exact below_drawn (Below.refl _ _) _))).mono ?_; rintro e w9 ⟨v9, rfl, ha9⟩; have haX := HA.out.step (Ap.pre (w := wr) (by first | exact Below.refl _ _ | (go_grown; done) | exact below_drawn (Below.refl _ _) _) ha9); have HA9 := Lib.hid haX))
      all_goals
        cases f
        · go_wp2_with fail
          go_roundw
          case rel => exact ⟨j + 1, _, by omega, by go_num, rfl, ⟨_, rfl⟩, Lib.hid (by rw [HKQ.out]; rfl), Lib.hid (by rw [HBQ.out]; exact HA9.out)⟩
          case measure => simp [intOf]; omega
        · go_wp2_with fail
          go_roundw
          case rel => exact ⟨j + 1, _, by omega, by go_num, rfl, ⟨_, rfl⟩, Lib.hid (by rw [HKQ.out]; rfl), Lib.hid (by rw [HBQ.out]; exact HA9.out)⟩
          case measure => simp [intOf]; omega
    · obtain rfl : j = 3 := by omega
      rw [HZ1.out, List.nil_append] at HA
      rw [HZ1.out, Bool.true_and] at HFL
      clear HXN HKS HNV HNF HL0 HZ1 HVA HFA
      obtain ⟨PS, hPS⟩ : ∃ PS, PS = be 8 r.sec := ⟨_, rfl⟩
      have HPS := Lib.hid hPS
      have HPL : Hid (8 = PS.length) := Lib.hid (by rw [hPS, be_length])
      have HPP := Lib.hid (fun w => refput_any 8 r.sec (by decide) (by decide) HR.out.sec w)
      unfold RPost at HPP
      rw [← hPS] at HPP
      have HQ1 : Hid ((datB [(r.op, 1), (r.ten, 1), (r.usr, 2)]).length ≤ 24) := Lib.hid (datB_le _ (by simp))
      obtain ⟨Q1, hQ1⟩ : ∃ Q1, Q1 = datB [(r.op, 1), (r.ten, 1), (r.usr, 2)] := ⟨_, rfl⟩
      have HQE := Lib.hid hQ1
      rw [← hQ1] at HA HQ1
      obtain ⟨F1, hF1⟩ : ∃ F1, F1 = datK [(r.op, 1), (r.ten, 1), (r.usr, 2)] := ⟨_, rfl⟩
      rw [← hF1] at HFL
      have HF1 := Lib.hid hF1
      clear hPS hQ1 hF1
      have k3 := (HK1.out.thru0 HA.out.f.bel).cell 3; simp only [e3] at k3
      have HFA := Lib.hid HA.out.f
      clear HA
      go_wp2_with fail
      refine (HPP.out _).mono ?_
      rintro e w2 ⟨l, rfl, hown, hb⟩
      obtain ⟨g, cap, cur, rfl, hgb, hbl, hce⟩ := own_cells hown (by decide)
      have HBK := Lib.hid hbl
      have HCE := Lib.hid hce
      have HVG : Hid (u4.ownBlock ≠ some g) := Lib.hid (fun e => by have := HFA.out.own.lt e; omega)
      have HF2 := Lib.hid (HFA.out.below hb)
      clear hown hb hgb hbl hce k3 HPP
      go_wp2_with fail
      go_loopw [4, 12] (fun bq iq wr => ∃ j : Nat, j ≤ 8 ∧ iq = .int .i64 j ∧ Hid (Ap W1 w2 u4 (Q1 ++ (PS).take j) bq wr)) (fun _ i _ => 8 - (intOf i).toNat)
      case atStart => exact ⟨0, Nat.zero_le _, rfl, by simpa [Hid] using Ap.refl HF2.out⟩
      case round =>
        rename World => wr
        obtain ⟨j, hj, rfl, HA⟩ := hrel
        obtain ⟨A2, c2, hv, hl2, hm2⟩ := HA.out.f.own.slice
        by_cases hlt : j < 8
        · have hjl : j < (PS).length := by have := HPL.out; omega
          have HTK : Hid (Q1 ++ (PS).take (j + 1) = (Q1 ++ (PS).take j) ++ [(PS)[j]]) := Lib.hid (by rw [List.take_succ_eq_append_getElem hjl, List.append_assoc])
          have kc := (HA.out.blk HBK.out HVG.out).cell j
          rw [HCE.out j PS[j] (List.getElem?_eq_getElem hjl)] at kc
          generalize (PS)[j] = x at *
          have HLQ : Hid ((Q1 ++ (PS).take j).length ≤ 2000) := Lib.hid (by have h1 := HQ1.out; have h2 := HPL.out; rw [List.length_append, List.length_take]; omega)
          generalize Q1 ++ (PS).take j = Q at *
          generalize Q.length = lj at hv hl2
          subst hv
          clear hl2 hm2 hjl
          have HOW := Lib.hid (HA.out.f.own.below ((Below.refl _ _).alloc (Nat.le_refl _) (.cells #[.int .u8 (x.toNat : Int)] 5)))
          have HRM := Lib.hid (one_new2 wr x 5)
          go_wp2_with ((at_builtin; go_loud (refine wpList_eappr2 (e2 := 5) elB_ok rfl _ _ 22 22 rfl (by kernel_rfl) (by kernel_rfl) _ Q [x] (some ⟨wr.heap.size, 0, none⟩) 1 rfl rfl HOW.out HRM.out (by have := HLQ.out; simp only [maxLen, List.length_cons, List.length_nil]; omega) (by have := HLQ.out; have h1 : elB.by_ = 1 := rfl; rw [h1, List.length_cons, List.length_nil]; omega) ?_; intro v' w9 hA; have HA9 := Lib.hid (HA.out.app ((Below.refl _ _).alloc (Nat.le_refl _) _) hA); clear hA)))
          go_roundw
          case rel => exact ⟨j + 1, by omega, by go_num, Lib.hid (by rw [HTK.out]; exact HA9.out)⟩
          case measure => simp [intOf]; omega
        · obtain rfl : j = 8 := by omega
          have HT2 : Hid ((PS).take 8 = PS) := Lib.hid (List.take_of_length_le (by have := HPL.out; omega))
          rw [HT2.out] at HA hv
          clear HT2
          generalize (Q1 ++ PS).length = lj at hv hl2
          subst hv
          clear hl2 hm2
          have HFB := Lib.hid HA.out.f
          clear HA
          have HQL : Hid ((Q1 ++ PS).length ≤ 40) := Lib.hid (by rw [List.length_append]; have := HQ1.out; have := HPL.out; omega)
          have k4 := (HK1.out.thru0 HFB.out.bel).cell 4; simp only [e4] at k4
          go_wp2_with fail
          refine (wput_any W1 _ _ (Q1 ++ PS) r.m 1 (by decide) (by decide) HFB.out (by have := HQL.out; omega)).mono ?_
          rintro e w3 ⟨v3, rfl, ha3⟩
          have HF3b := Lib.hid ha3.f
          have HQL2 : Hid (((Q1 ++ PS) ++ wputB r.m 1).length ≤ 60) := Lib.hid (by have h1 := HQL.out; have h2 := wputB_le r.m 1; rw [List.length_append]; omega)
          have HQE2 : Hid ((Q1 ++ PS) ++ wputB r.m 1 = (datB [(r.op, 1), (r.ten, 1), (r.usr, 2)] ++ be 8 r.sec) ++ wputB r.m 1) := Lib.hid (by rw [HQE.out, HPS.out])
          generalize (Q1 ++ PS) ++ wputB r.m 1 = Q2 at *
          clear ha3 k4
          obtain ⟨o3, ho3⟩ : ∃ o3, o3 = wputK r.m 1 := ⟨_, rfl⟩
          have HO3 := Lib.hid ho3
          rw [← ho3]
          clear ho3
          cases f
          · have HFM : Hid (false = (F1 && o3)) := Lib.hid (by rw [← HFL.out]; rfl)
            have hld := run_ldQ (HK1.out.thru0 HF3b.out.bel)
            have k0 := (HK1.out.thru0 HF3b.out.bel).cell 0; simp only [e0] at k0
            go_wp2_with fail
            refine (rvals_any r w3).mono ?_
            rintro e w4 ⟨gv, rfl, hov, hgv, hb4⟩
            have HB4 := Lib.hid hb4
            have HOV := Lib.hid hov
            have HGV := Lib.hid hgv
            clear hld k0 hov hgv hb4
            have k0 := (HK1.out.thru0 (below_trans HF3b.out.bel HB4.out)).cell 0; simp only [e0] at k0
            go_wp2_with fail
            refine (fld_any 6 (by omega) (by omega) w4).mono ?_
            rintro e w5 ⟨gf, rfl, hof, hgf, hb5⟩
            have HB5 := Lib.hid (below_trans HB4.out hb5)
            have HOV5 := Lib.hid (HOV.out.below hb5)
            have HOF := Lib.hid hof
            have HGF := Lib.hid hgf
            have HS4 := Lib.hid HB4.out.size
            have HF5 := Lib.hid (HF3b.out.below HB5.out)
            have HVB := Lib.hid (fun i (hi : v3.ownBlock = some i) => HF3b.out.own.lt hi)
            clear k0 hof hgf hb5 HOV
            have HXL := Lib.hid (vals_len r 6 hk (by omega) (by omega))
            have HWL := Lib.hid (widL_le 6)
            generalize valsN r = XS at *
            generalize widL 6 = KS at *
            obtain ⟨nv, hnv⟩ : ∃ n, n = XS.length := ⟨_, rfl⟩
            obtain ⟨nf, hnf⟩ : ∃ n, n = KS.length := ⟨_, rfl⟩
            rw [← hnv] at HOV5 ⊢
            rw [← hnf] at HOF ⊢
            have HXN3 : Hid (nv = XS.length ∧ XS.length ≤ KS.length ∧ nv ≤ 10) := Lib.hid (by have h1 := HXL.out; have h2 := HWL.out.1; omega)
            have HKS3 : Hid (∀ x ∈ KS, 1 ≤ x ∧ x ≤ 8) := Lib.hid HWL.out.2
            have HNV3 : Hid (∀ (i : Nat), (Value.slice (some ⟨gv, 0, none⟩) nv nv).ownBlock = some i → v3.ownBlock = some i → False) := Lib.hid (fun i h1 h2 => by simp [Value.ownBlock] at h1; have h3 := HVB.out i h2; have h4 := HGV.out; omega)
            have HNF3 : Hid (∀ (i : Nat), (Value.slice (some ⟨gf, 0, none⟩) nf nf).ownBlock = some i → v3.ownBlock = some i → False) := Lib.hid (fun i h1 h2 => by simp [Value.ownBlock] at h1; have h3 := HVB.out i h2; have h4 := HGF.out; have h5 := HS4.out; omega)
            have HZ3 : Hid ((XS.zip KS).take nv = XS.zip KS) := Lib.hid (by rw [hnv]; exact zip_all XS KS HXN3.out.2.1)
            have HVF : Hid (nv ≤ nf) := Lib.hid (by have := HXN3.out; omega)
            clear hnv hnf
            go_wp2_with fail
            go_loopw [4, 7, 8, 15] (fun bq okq fq iq wr => ∃ (j : Nat) (f : Bool), j ≤ nv ∧ iq = .int .i64 j ∧ fq = .bool f ∧ (∃ o : Bool, okq = .bool o) ∧ Hid (f = (false && datK ((XS.zip KS).take j))) ∧ Hid (Ap W1 w5 v3 (Q2 ++ datB ((XS.zip KS).take j)) bq wr)) (fun _ _ _ i _ => nv - (intOf i).toNat)
            case atStart => exact ⟨0, _, Nat.zero_le _, rfl, rfl, ⟨_, rfl⟩, by simp [datK, Hid], by simpa [datB, Hid] using Ap.refl HF5.out⟩
            case round =>
              rename World => wr
              obtain ⟨j, f, hj, rfl, rfl, ⟨o, rfl⟩, HFL, HA⟩ := hrel
              by_cases hlt : j < nv
              · have hnf9 : j < nf := by have := HVF.out; omega
                have hnv9 : nv ≤ 10 := HXN3.out.2.2
                have hj1 : j < (XS).length := by have := HXN3.out; omega
                have hj2 : j < (KS).length := by have := HXN3.out; omega
                have HZS := Lib.hid (zip_step (XS) (KS) j hj1 hj2)
                have HX0 := Lib.hid (List.getElem?_eq_getElem hj1)
                have HY0 := Lib.hid (List.getElem?_eq_getElem hj2)
                have HK8 := Lib.hid (HKS3.out _ (List.getElem_mem hj2))
                have HLQ : Hid ((Q2 ++ datB ((XS.zip KS).take j)).length ≤ 1000) := Lib.hid (by have h1 := zip_le (XS) (KS) (fun x hx => (HKS3.out x hx).2) j; have h2 := HQL2.out; have h3 := HXN3.out; rw [List.length_append]; omega)
                have HB1 := Lib.hid (datB_snoc ((XS.zip KS).take j) ((XS)[j], (KS)[j]))
                have HK1 := Lib.hid (datK_snoc ((XS.zip KS).take j) ((XS)[j], (KS)[j]))
                rw [← HZS.out] at HB1 HK1
                have HBQ : Hid (Q2 ++ datB ((XS.zip KS).take (j + 1)) = (Q2 ++ datB ((XS.zip KS).take j)) ++ wputB (XS)[j] (KS)[j]) := Lib.hid (by rw [HB1.out, List.append_assoc])
                have HKQ : Hid ((false && datK ((XS.zip KS).take (j + 1))) = (f && wputK (XS)[j] (KS)[j])) := Lib.hid (by rw [HK1.out, HFL.out, Bool.and_assoc])
                clear HB1 HK1 HZS HFL
                generalize (XS)[j] = x at *
                generalize (KS)[j] = k at *
                clear hj1 hj2
                generalize (Q2 ++ datB ((XS.zip KS).take j)) = Q at *
                have HPU := Lib.hid (fun (X : World) (v : Value) (hX : FBy W1 v Q X) => wput_any W1 X v Q x k HK8.out.1 HK8.out.2 hX (by have := HLQ.out; omega))
                generalize wputK x k = o2 at *
                have HS := Lib.hid (fun (w' : World) (Q' : Bs) (v' : Value) (h : Ap W1 w5 v3 Q' v' w') => And.intro (show w'.cell? ⟨gv, j, none⟩ = some (.int .i64 x) from (HOV5.out.keep fun i hi e => h.keep i hi (fun e2 => HNV3.out i e e2)).vcell HX0.out) (show w'.cell? ⟨gf, j, none⟩ = some (.int .i64 (k : Int)) from (HOF.out.keep fun i hi e => h.keep i hi (fun e2 => HNF3.out i e e2)).wcell HY0.out))
                obtain ⟨kx, kk⟩ := HS.out _ _ _ HA.out
                go_upto_region 25 with fail
                go_region_held3 (fun w' => w'.cell? ⟨gv, j, none⟩ = some (.int .i64 x) ∧ w'.cell? ⟨gf, j, none⟩ = some (.int .i64 (k : Int))) (first | (exact HS.out _ _ _ (by first | (with_reducible exact HA9.out) | (with_reducible exact HA.out) | exact HA.out.below (by first | exact Below.refl _ _ | (go_grown; done) | exact below_drawn (Below.refl _ _) _))) | go_keep) (first | (go_at_call 27; refine (HPU.out _ _ (HA.out.f.below (by first | exact Below.refl _ _ | (go_grown; done) | exact below_drawn (Below.refl _ _) _))).mono ?_; rintro e w9 ⟨v9, rfl, ha9⟩; have haX := HA.out.step (Ap.pre (w := wr) (by first | exact Below.refl _ _ | (go_grown; done) | exact below_drawn (Below.refl _ _) _) ha9); have HA9 := Lib.hid haX))
                all_goals
                  cases f
                  · go_wp2_with fail
                    go_roundw
                    case rel => exact ⟨j + 1, _, by omega, by go_num, rfl, ⟨_, rfl⟩, Lib.hid (by rw [HKQ.out]; rfl), Lib.hid (by rw [HBQ.out]; exact HA9.out)⟩
                    case measure => simp [intOf]; omega
                  · go_wp2_with fail
                    go_roundw
                    case rel => exact ⟨j + 1, _, by omega, by go_num, rfl, ⟨_, rfl⟩, Lib.hid (by rw [HKQ.out]; rfl), Lib.hid (by rw [HBQ.out]; exact HA9.out)⟩
                    case measure => simp [intOf]; omega
              · obtain rfl : j = nv := by omega
                rw [HZ3.out] at HFL HA
                have HFL3 : Hid (f = refK r) := Lib.hid (by rw [HKE.out, HFL.out, ← HF1.out, ← HO3.out, ← HFM.out])
                have HXA := Lib.hid HA.out.f
                obtain ⟨QN, hQN⟩ : ∃ QN, QN = datB (XS.zip KS) := ⟨_, rfl⟩
                have HQN := Lib.hid hQN
                have HQN8 : Hid (QN.length ≤ 90) := Lib.hid (by rw [hQN]; have h1 := datB_le (XS.zip KS) (fun p hp => (HKS3.out p.2 (List.of_mem_zip hp).2).2); have h2 := HXN3.out; rw [List.length_zip] at h1; omega)
                rw [← hQN] at HXA
                clear hQN HA HFL
                have k19 := (HK1.out.thru0 HXA.out.bel).cell 19; simp only [e19] at k19
                have k0 := (HK1.out.thru0 HXA.out.bel).cell 0; simp only [e0] at k0
                have k17 := (HK1.out.thru0 HXA.out.bel).cell 17; simp only [e17] at k17
                have HP2 := Lib.hid (fun w => refput_any 8 r.oth (by decide) (by decide) HR.out.oth w)
                unfold RPost at HP2
                go_wp2_with fail
                refine (HP2.out _).mono ?_
                rintro e w6 ⟨l2, rfl, hown2, hb2⟩
                have HX6 := Lib.hid (HXA.out.below hb2)
                obtain ⟨g2, cap2, cur2, rfl, hgb2, hbl2, hce2⟩ := own_cells hown2 (by decide)
                have HBK2 := Lib.hid hbl2
                have HCE2 := Lib.hid hce2
                have HVG2 : Hid (u4.ownBlock ≠ some g2) := Lib.hid (fun e => by have := HXA.out.own.lt e; omega)
                obtain ⟨Q3, hQ3⟩ : ∃ x, x = Q2 ++ QN := ⟨_, rfl⟩
                have HQ3 := Lib.hid hQ3
                have HQ38 : Hid (Q3.length ≤ 160) := Lib.hid (by rw [hQ3, List.length_append]; have h1 := HQL2.out; have h2 := HQN8.out; omega)
                rw [← hQ3] at HX6
                clear hown2 hb2 hgb2 hbl2 hce2 k19 k0 HXA HP2 hQ3 k17
                obtain ⟨PT, hPT⟩ : ∃ PT, PT = be 8 r.oth := ⟨_, rfl⟩
                have HPT := Lib.hid hPT
                have HPTL : Hid (8 = PT.length) := Lib.hid (by rw [hPT, be_length])
                rw [← hPT] at HCE2
                clear hPT
                have k0 := (HK1.out.thru0 HX6.out.bel).cell 0; simp only [e0] at k0
                go_wp2_with fail
                clear k0
                go_loopw [4, 17] (fun bq iq wr => ∃ j : Nat, j ≤ 8 ∧ iq = .int .i64 j ∧ Hid (Ap W1 w6 u4 (Q3 ++ (PT).take j) bq wr)) (fun _ i _ => 8 - (intOf i).toNat)
                case atStart => exact ⟨0, Nat.zero_le _, rfl, by simpa [Hid] using Ap.refl HX6.out⟩
                case round =>
                  rename World => wr
                  obtain ⟨j, hj, rfl, HA⟩ := hrel
                  obtain ⟨A2, c2, hv, hl2, hm2⟩ := HA.out.f.own.slice
                  by_cases hlt : j < 8
                  · have hjl : j < (PT).length := by have := HPTL.out; omega
                    have HTK : Hid (Q3 ++ (PT).take (j + 1) = (Q3 ++ (PT).take j) ++ [(PT)[j]]) := Lib.hid (by rw [List.take_succ_eq_append_getElem hjl, List.append_assoc])
                    have kc := (HA.out.blk HBK2.out HVG2.out).cell j
                    rw [HCE2.out j PT[j] (List.getElem?_eq_getElem hjl)] at kc
                    have k0 := (HK1.out.thru0 HA.out.f.bel).cell 0; simp only [e0] at k0
                    generalize (PT)[j] = x at *
                    have HLQ : Hid ((Q3 ++ (PT).take j).length ≤ 2000) := Lib.hid (by have h1 := HQ38.out; have h2 := HPTL.out; rw [List.length_append, List.length_take]; omega)
                    generalize Q3 ++ (PT).take j = Q at *
                    generalize Q.length = lj at hv hl2
                    subst hv
                    clear hl2 hm2 hjl
                    have HOW := Lib.hid (HA.out.f.own.below ((Below.refl _ _).alloc (Nat.le_refl _) (.cells #[.int .u8 (x.toNat : Int)] 5)))
                    have HRM := Lib.hid (one_new2 wr x 5)
                    go_wp2_with ((at_builtin; go_loud (refine wpList_eappr2 (e2 := 5) elB_ok rfl _ _ 22 22 rfl (by kernel_rfl) (by kernel_rfl) _ Q [x] (some ⟨wr.heap.size, 0, none⟩) 1 rfl rfl HOW.out HRM.out (by have := HLQ.out; simp only [maxLen, List.length_cons, List.length_nil]; omega) (by have := HLQ.out; have h1 : elB.by_ = 1 := rfl; rw [h1, List.length_cons, List.length_nil]; omega) ?_; intro v' w9 hA; have HA9 := Lib.hid (HA.out.app ((Below.refl _ _).alloc (Nat.le_refl _) _) hA); clear hA)))
                    go_roundw
                    case rel => exact ⟨j + 1, by omega, by go_num, Lib.hid (by rw [HTK.out]; exact HA9.out)⟩
                    case measure => simp [intOf]; omega
                  · obtain rfl : j = 8 := by omega
                    have HT2 : Hid ((PT).take 8 = PT) := Lib.hid (List.take_of_length_le (by have := HPTL.out; omega))
                    rw [HT2.out] at HA hv
                    clear HT2
                    generalize (Q3 ++ PT).length = lj at hv hl2
                    subst hv
                    clear hl2 hm2
                    have HX := Lib.hid HA.out.f
                    clear HA
                    have k0 := (HK1.out.thru0 HX.out.bel).cell 0; simp only [e0] at k0
                    have k9 := (HK1.out.thru0 HX.out.bel).cell 9; simp only [e9] at k9
                    go_wp2_with fail
                    refine wp_loop_rounds 1 ?_
                    rw [rounds_succ]
                    by_cases htp : (0 : Int) < ((bs r.text).size : Int)
                    all_goals
                      have HW6 : Hid ((Q3 ++ PT) = refW r) := Lib.hid (by rw [HWE.out, ← HQE2.out, HQ3.out, HQN.out, HPT.out]; simp [tailW])
                      obtain ⟨A6, c6, hv6, hl6, hm6⟩ := HX.out.own.slice
                      obtain ⟨QQ, hqq⟩ : ∃ x, x = (Q3 ++ PT) := ⟨_, rfl⟩
                      rw [← hqq] at HW6 HX hv6 hl6
                      clear hqq
                      obtain ⟨nq, hnq⟩ : ∃ n, n = QQ.length := ⟨_, rfl⟩
                      rw [← hnq] at hv6 hl6
                      clear hnq
                      first | subst hv6 | (injection hv6 with ea eb ec; subst ea; subst eb; subst ec)
                      cases f
                      · have HKF : Hid (refOk r = false) := Lib.hid (refOk_no HFL3.out.symm)
                        have HBE := Lib.hid (below_trans HB1.out HX.out.bel)
                        clear hl6 hm6
                        go_wp2_with fail
                        go_ret2
                        exact ⟨HBE.out, _, (by rw [HKF.out]; rfl), fun h => by rw [HKF.out] at h; cases h⟩
                      · have HKT := Lib.hid (HOK.out HFL3.out.symm)
                        rw [← HW6.out] at HKT
                        have HOX := Lib.hid HX.out.own
                        have HD := Lib.hid (rdecode_any _ _ _ _ QQ hl6 hm6 (EOwn.rb HX.out.own))
                        have HBX := Lib.hid HX.out.bel
                        have HWX := Lib.hid HW6.out.symm
                        unfold DecP at HD
                        generalize decR QQ = x at *
                        obtain ⟨er, r2⟩ := x
                        simp only at HD HKT
                        clear hl6 hm6 HX
                        go_wp2_with fail
                        refine HD.out.mono ?_
                        rintro e w7 ⟨rfl, hb7⟩
                        have HB7 := Lib.hid (below_trans HBX.out hb7)
                        have HO7 := Lib.hid (HOX.out.below hb7)
                        have hst : (stQ (.pointer (some ⟨w7.heap.size, 0, none⟩)) (.agg r2.cs)).run Try.prog (w7.alloc (.cells #[.int .i64 0, .int .i64 0, .int .i64 0, .int .u64 0, .int .i64 0, .int .i64 0, .int .i64 0, .int .i64 0, .int .i64 0, .string ⟨#[]⟩, .int .i64 0, .int .i64 0, .int .i64 0, .int .i64 0, .int .i64 0, .int .i64 0, .int .i64 0, .int .u64 0, .int .i64 0, .int .u64 0, .int .i64 0, .int .i64 0, .int .i64 0, .int .i64 0] TQ)) = .ok () (w7.alloc (.cells r2.cs TQ)) := run_stQ (r := r2) (r0 := Rq.z)
                        have hb8 : Below w7.heap.size w7 (w7.alloc (.cells r2.cs TQ)) := (Below.refl _ _).alloc (Nat.le_refl _) _
                        have hl5 := run_ldQ (Blk.new w7 TQ r2.cs)
                        have hl1 := run_ldQ ((HK1.out.thru0 HB7.out).thru0 hb8)
                        have hv5 := run_ldV (Blk.new w7 TQ r2.cs)
                        have hv1 := run_ldV ((HK1.out.thru0 HB7.out).thru0 hb8)
                        have HB8 := Lib.hid (below_trans HB1.out (below_trans HB7.out hb8))
                        have HO8 := Lib.hid (HO7.out.below hb8)
                        have HP5 := Lib.hid (Blk.new w7 TQ r2.cs)
                        have HP1 := Lib.hid ((HK1.out.thru0 HB7.out).thru0 hb8)
                        clear hb7 hb8 HD HBX HOX HO7 hl5 hl1 hv5 hv1
                        by_cases he : er = 0
                        · subst he
                          cases hq : eqQ r2 r with
                          | true =>
                            have HKV : Hid (refOk r = true) := Lib.hid (by rw [HKT.out, hq]; rfl)
                            go_upto_region 42 with fail
                            have hq5 := fun q => run_ldQ (HP5.out.drewN q)
                            have hq1 := fun q => run_ldQ (HP1.out.drewN q)
                            have hq5d := run_ldQ HP5.out.drew
                            have hq1d := run_ldQ HP1.out.drew
                            go_quiet (fail)
                            rename Nat => nq9
                            go_wp2_with fail
                            go_ret2
                            exact ⟨below_drawn HB8.out nq9, _, (by rw [HKV.out]; rfl), fun _ => by rw [HWX.out]; exact HO8.out.below (below_drawn (Below.refl _ _) nq9)⟩
                          | false =>
                            have HKV : Hid (refOk r = false) := Lib.hid (by rw [HKT.out, hq, Bool.and_false])
                            go_upto_region 42 with fail
                            have hq5 := fun q => run_ldQ (HP5.out.drewN q)
                            have hq1 := fun q => run_ldQ (HP1.out.drewN q)
                            have hq5d := run_ldQ HP5.out.drew
                            have hq1d := run_ldQ HP1.out.drew
                            go_quiet (fail)
                            rename Nat => nq9
                            go_wp2_with fail
                            go_ret2
                            exact ⟨below_drawn HB8.out nq9, _, (by rw [HKV.out]; rfl), fun h => by rw [HKV.out] at h; cases h⟩
                        · have hne : (er == 0) = false := by simpa using he
                          have hnd : decide (er = 0) = false := decide_eq_false he
                          have HKV : Hid (refOk r = false) := Lib.hid (by rw [HKT.out, decide_eq_false he, Bool.false_and])
                          clear he
                          go_upto_region 42 with fail
                          go_quiet (fail)
                          rename Nat => nq9
                          go_wp2_with fail
                          go_ret2
                          exact ⟨below_drawn HB8.out nq9, _, (by rw [HKV.out]; rfl), fun h => by rw [HKV.out] at h; cases h⟩
          · have HFM : Hid (o3 = (F1 && o3)) := Lib.hid (by rw [← HFL.out]; rfl)
            have hld := run_ldQ (HK1.out.thru0 HF3b.out.bel)
            have k0 := (HK1.out.thru0 HF3b.out.bel).cell 0; simp only [e0] at k0
            go_wp2_with fail
            refine (rvals_any r w3).mono ?_
            rintro e w4 ⟨gv, rfl, hov, hgv, hb4⟩
            have HB4 := Lib.hid hb4
            have HOV := Lib.hid hov
            have HGV := Lib.hid hgv
            clear hld k0 hov hgv hb4
            have k0 := (HK1.out.thru0 (below_trans HF3b.out.bel HB4.out)).cell 0; simp only [e0] at k0
            go_wp2_with fail
            refine (fld_any 6 (by omega) (by omega) w4).mono ?_
            rintro e w5 ⟨gf, rfl, hof, hgf, hb5⟩
            have HB5 := Lib.hid (below_trans HB4.out hb5)
            have HOV5 := Lib.hid (HOV.out.below hb5)
            have HOF := Lib.hid hof
            have HGF := Lib.hid hgf
            have HS4 := Lib.hid HB4.out.size
            have HF5 := Lib.hid (HF3b.out.below HB5.out)
            have HVB := Lib.hid (fun i (hi : v3.ownBlock = some i) => HF3b.out.own.lt hi)
            clear k0 hof hgf hb5 HOV
            have HXL := Lib.hid (vals_len r 6 hk (by omega) (by omega))
            have HWL := Lib.hid (widL_le 6)
            generalize valsN r = XS at *
            generalize widL 6 = KS at *
            obtain ⟨nv, hnv⟩ : ∃ n, n = XS.length := ⟨_, rfl⟩
            obtain ⟨nf, hnf⟩ : ∃ n, n = KS.length := ⟨_, rfl⟩
            rw [← hnv] at HOV5 ⊢
            rw [← hnf] at HOF ⊢
            have HXN3 : Hid (nv = XS.length ∧ XS.length ≤ KS.length ∧ nv ≤ 10) := Lib.hid (by have h1 := HXL.out; have h2 := HWL.out.1; omega)
            have HKS3 : Hid (∀ x ∈ KS, 1 ≤ x ∧ x ≤ 8) := Lib.hid HWL.out.2
            have HNV3 : Hid (∀ (i : Nat), (Value.slice (some ⟨gv, 0, none⟩) nv nv).ownBlock = some i → v3.ownBlock = some i → False) := Lib.hid (fun i h1 h2 => by simp [Value.ownBlock] at h1; have h3 := HVB.out i h2; have h4 := HGV.out; omega)
            have HNF3 : Hid (∀ (i : Nat), (Value.slice (some ⟨gf, 0, none⟩) nf nf).ownBlock = some i → v3.ownBlock = some i → False) := Lib.hid (fun i h1 h2 => by simp [Value.ownBlock] at h1; have h3 := HVB.out i h2; have h4 := HGF.out; have h5 := HS4.out; omega)
            have HZ3 : Hid ((XS.zip KS).take nv = XS.zip KS) := Lib.hid (by rw [hnv]; exact zip_all XS KS HXN3.out.2.1)
            have HVF : Hid (nv ≤ nf) := Lib.hid (by have := HXN3.out; omega)
            clear hnv hnf
            go_wp2_with fail
            go_loopw [4, 7, 8, 15] (fun bq okq fq iq wr => ∃ (j : Nat) (f : Bool), j ≤ nv ∧ iq = .int .i64 j ∧ fq = .bool f ∧ (∃ o : Bool, okq = .bool o) ∧ Hid (f = (o3 && datK ((XS.zip KS).take j))) ∧ Hid (Ap W1 w5 v3 (Q2 ++ datB ((XS.zip KS).take j)) bq wr)) (fun _ _ _ i _ => nv - (intOf i).toNat)
            case atStart => exact ⟨0, _, Nat.zero_le _, rfl, rfl, ⟨_, rfl⟩, by simp [datK, Hid], by simpa [datB, Hid] using Ap.refl HF5.out⟩
            case round =>
              rename World => wr
              obtain ⟨j, f, hj, rfl, rfl, ⟨o, rfl⟩, HFL, HA⟩ := hrel
              by_cases hlt : j < nv
              · have hnf9 : j < nf := by have := HVF.out; omega
                have hnv9 : nv ≤ 10 := HXN3.out.2.2
                have hj1 : j < (XS).length := by have := HXN3.out; omega
                have hj2 : j < (KS).length := by have := HXN3.out; omega
                have HZS := Lib.hid (zip_step (XS) (KS) j hj1 hj2)
                have HX0 := Lib.hid (List.getElem?_eq_getElem hj1)
                have HY0 := Lib.hid (List.getElem?_eq_getElem hj2)
                have HK8 := Lib.hid (HKS3.out _ (List.getElem_mem hj2))
                have HLQ : Hid ((Q2 ++ datB ((XS.zip KS).take j)).length ≤ 1000) := Lib.hid (by have h1 := zip_le (XS) (KS) (fun x hx => (HKS3.out x hx).2) j; have h2 := HQL2.out; have h3 := HXN3.out; rw [List.length_append]; omega)
                have HB1 := Lib.hid (datB_snoc ((XS.zip KS).take j) ((XS)[j], (KS)[j]))
                have HK1 := Lib.hid (datK_snoc ((XS.zip KS).take j) ((XS)[j], (KS)[j]))
                rw [← HZS.out] at HB1 HK1
                have HBQ : Hid (Q2 ++ datB ((XS.zip KS).take (j + 1)) = (Q2 ++ datB ((XS.zip KS).take j)) ++ wputB (XS)[j] (KS)[j]) := Lib.hid (by rw [HB1.out, List.append_assoc])
                have HKQ : Hid ((o3 && datK ((XS.zip KS).take (j + 1))) = (f && wputK (XS)[j] (KS)[j])) := Lib.hid (by rw [HK1.out, HFL.out, Bool.and_assoc])
                clear HB1 HK1 HZS HFL
                generalize (XS)[j] = x at *
                generalize (KS)[j] = k at *
                clear hj1 hj2
                generalize (Q2 ++ datB ((XS.zip KS).take j)) = Q at *
                have HPU := Lib.hid (fun (X : World) (v : Value) (hX : FBy W1 v Q X) => wput_any W1 X v Q x k HK8.out.1 HK8.out.2 hX (by have := HLQ.out; omega))
                generalize wputK x k = o2 at *
                have HS := Lib.hid (fun (w' : World) (Q' : Bs) (v' : Value) (h : Ap W1 w5 v3 Q' v' w') => And.intro (show w'.cell? ⟨gv, j, none⟩ = some (.int .i64 x) from (HOV5.out.keep fun i hi e => h.keep i hi (fun e2 => HNV3.out i e e2)).vcell HX0.out) (show w'.cell? ⟨gf, j, none⟩ = some (.int .i64 (k : Int)) from (HOF.out.keep fun i hi e => h.keep i hi (fun e2 => HNF3.out i e e2)).wcell HY0.out))
                obtain ⟨kx, kk⟩ := HS.out _ _ _ HA.out
                go_upto_region 25 with fail
                go_region_held3 (fun w' => w'.cell? ⟨gv, j, none⟩ = some (.int .i64 x) ∧ w'.cell? ⟨gf, j, none⟩ = some (.int .i64 (k : Int))) (first | (exact HS.out _ _ _ (by first | (with_reducible exact HA9.out) | (with_reducible exact HA.out) | exact HA.out.below (by first | exact Below.refl _ _ | (go_grown; done) | exact below_drawn (Below.refl _ _) _))) | go_keep) (first | (go_at_call 27; refine (HPU.out _ _ (HA.out.f.below (by first | exact Below.refl _ _ | (go_grown; done) | exact below_drawn (Below.refl _ _) _))).mono ?_; rintro e w9 ⟨v9, rfl, ha9⟩; have haX := HA.out.step (Ap.pre (w := wr) (by first | exact Below.refl _ _ | (go_grown; done) | exact below_drawn (Below.refl _ _) _) ha9); have HA9 := Lib.hid haX))
                all_goals
                  cases f
                  · go_wp2_with fail
                    go_roundw
                    case rel => exact ⟨j + 1, _, by omega, by go_num, rfl, ⟨_, rfl⟩, Lib.hid (by rw [HKQ.out]; rfl), Lib.hid (by rw [HBQ.out]; exact HA9.out)⟩
                    case measure => simp [intOf]; omega
                  · go_wp2_with fail
                    go_roundw
                    case rel => exact ⟨j + 1, _, by omega, by go_num, rfl, ⟨_, rfl⟩, Lib.hid (by rw [HKQ.out]; rfl), Lib.hid (by rw [HBQ.out]; exact HA9.out)⟩
                    case measure => simp [intOf]; omega
              · obtain rfl : j = nv := by omega
                rw [HZ3.out] at HFL HA
                have HFL3 : Hid (f = refK r) := Lib.hid (by rw [HKE.out, HFL.out, ← HF1.out, ← HO3.out, ← HFM.out])
                have HXA := Lib.hid HA.out.f
                obtain ⟨QN, hQN⟩ : ∃ QN, QN = datB (XS.zip KS) := ⟨_, rfl⟩
                have HQN := Lib.hid hQN
                have HQN8 : Hid (QN.length ≤ 90) := Lib.hid (by rw [hQN]; have h1 := datB_le (XS.zip KS) (fun p hp => (HKS3.out p.2 (List.of_mem_zip hp).2).2); have h2 := HXN3.out; rw [List.length_zip] at h1; omega)
                rw [← hQN] at HXA
                clear hQN HA HFL
                have k19 := (HK1.out.thru0 HXA.out.bel).cell 19; simp only [e19] at k19
                have k0 := (HK1.out.thru0 HXA.out.bel).cell 0; simp only [e0] at k0
                have k17 := (HK1.out.thru0 HXA.out.bel).cell 17; simp only [e17] at k17
                have HP2 := Lib.hid (fun w => refput_any 8 r.oth (by decide) (by decide) HR.out.oth w)
                unfold RPost at HP2
                go_wp2_with fail
                refine (HP2.out _).mono ?_
                rintro e w6 ⟨l2, rfl, hown2, hb2⟩
                have HX6 := Lib.hid (HXA.out.below hb2)
                obtain ⟨g2, cap2, cur2, rfl, hgb2, hbl2, hce2⟩ := own_cells hown2 (by decide)
                have HBK2 := Lib.hid hbl2
                have HCE2 := Lib.hid hce2
                have HVG2 : Hid (u4.ownBlock ≠ some g2) := Lib.hid (fun e => by have := HXA.out.own.lt e; omega)
                obtain ⟨Q3, hQ3⟩ : ∃ x, x = Q2 ++ QN := ⟨_, rfl⟩
                have HQ3 := Lib.hid hQ3
                have HQ38 : Hid (Q3.length ≤ 160) := Lib.hid (by rw [hQ3, List.length_append]; have h1 := HQL2.out; have h2 := HQN8.out; omega)
                rw [← hQ3] at HX6
                clear hown2 hb2 hgb2 hbl2 hce2 k19 k0 HXA HP2 hQ3 k17
                obtain ⟨PT, hPT⟩ : ∃ PT, PT = be 8 r.oth := ⟨_, rfl⟩
                have HPT := Lib.hid hPT
                have HPTL : Hid (8 = PT.length) := Lib.hid (by rw [hPT, be_length])
                rw [← hPT] at HCE2
                clear hPT
                have k0 := (HK1.out.thru0 HX6.out.bel).cell 0; simp only [e0] at k0
                go_wp2_with fail
                clear k0
                go_loopw [4, 17] (fun bq iq wr => ∃ j : Nat, j ≤ 8 ∧ iq = .int .i64 j ∧ Hid (Ap W1 w6 u4 (Q3 ++ (PT).take j) bq wr)) (fun _ i _ => 8 - (intOf i).toNat)
                case atStart => exact ⟨0, Nat.zero_le _, rfl, by simpa [Hid] using Ap.refl HX6.out⟩
                case round =>
                  rename World => wr
                  obtain ⟨j, hj, rfl, HA⟩ := hrel
                  obtain ⟨A2, c2, hv, hl2, hm2⟩ := HA.out.f.own.slice
                  by_cases hlt : j < 8
                  · have hjl : j < (PT).length := by have := HPTL.out; omega
                    have HTK : Hid (Q3 ++ (PT).take (j + 1) = (Q3 ++ (PT).take j) ++ [(PT)[j]]) := Lib.hid (by rw [List.take_succ_eq_append_getElem hjl, List.append_assoc])
                    have kc := (HA.out.blk HBK2.out HVG2.out).cell j
                    rw [HCE2.out j PT[j] (List.getElem?_eq_getElem hjl)] at kc
                    have k0 := (HK1.out.thru0 HA.out.f.bel).cell 0; simp only [e0] at k0
                    generalize (PT)[j] = x at *
                    have HLQ : Hid ((Q3 ++ (PT).take j).length ≤ 2000) := Lib.hid (by have h1 := HQ38.out; have h2 := HPTL.out; rw [List.length_append, List.length_take]; omega)
                    generalize Q3 ++ (PT).take j = Q at *
                    generalize Q.length = lj at hv hl2
                    subst hv
                    clear hl2 hm2 hjl
                    have HOW := Lib.hid (HA.out.f.own.below ((Below.refl _ _).alloc (Nat.le_refl _) (.cells #[.int .u8 (x.toNat : Int)] 5)))
                    have HRM := Lib.hid (one_new2 wr x 5)
                    go_wp2_with ((at_builtin; go_loud (refine wpList_eappr2 (e2 := 5) elB_ok rfl _ _ 22 22 rfl (by kernel_rfl) (by kernel_rfl) _ Q [x] (some ⟨wr.heap.size, 0, none⟩) 1 rfl rfl HOW.out HRM.out (by have := HLQ.out; simp only [maxLen, List.length_cons, List.length_nil]; omega) (by have := HLQ.out; have h1 : elB.by_ = 1 := rfl; rw [h1, List.length_cons, List.length_nil]; omega) ?_; intro v' w9 hA; have HA9 := Lib.hid (HA.out.app ((Below.refl _ _).alloc (Nat.le_refl _) _) hA); clear hA)))
                    go_roundw
                    case rel => exact ⟨j + 1, by omega, by go_num, Lib.hid (by rw [HTK.out]; exact HA9.out)⟩
                    case measure => simp [intOf]; omega
                  · obtain rfl : j = 8 := by omega
                    have HT2 : Hid ((PT).take 8 = PT) := Lib.hid (List.take_of_length_le (by have := HPTL.out; omega))
                    rw [HT2.out] at HA hv
                    clear HT2
                    generalize (Q3 ++ PT).length = lj at hv hl2
                    subst hv
                    clear hl2 hm2
                    have HX := Lib.hid HA.out.f
                    clear HA
                    have k0 := (HK1.out.thru0 HX.out.bel).cell 0; simp only [e0] at k0
                    have k9 := (HK1.out.thru0 HX.out.bel).cell 9; simp only [e9] at k9
                    go_wp2_with fail
                    refine wp_loop_rounds 1 ?_
                    rw [rounds_succ]
                    by_cases htp : (0 : Int) < ((bs r.text).size : Int)
                    all_goals
                      have HW6 : Hid ((Q3 ++ PT) = refW r) := Lib.hid (by rw [HWE.out, ← HQE2.out, HQ3.out, HQN.out, HPT.out]; simp [tailW])
                      obtain ⟨A6, c6, hv6, hl6, hm6⟩ := HX.out.own.slice
                      obtain ⟨QQ, hqq⟩ : ∃ x, x = (Q3 ++ PT) := ⟨_, rfl⟩
                      rw [← hqq] at HW6 HX hv6 hl6
                      clear hqq
                      obtain ⟨nq, hnq⟩ : ∃ n, n = QQ.length := ⟨_, rfl⟩
                      rw [← hnq] at hv6 hl6
                      clear hnq
                      first | subst hv6 | (injection hv6 with ea eb ec; subst ea; subst eb; subst ec)
                      cases f
                      · have HKF : Hid (refOk r = false) := Lib.hid (refOk_no HFL3.out.symm)
                        have HBE := Lib.hid (below_trans HB1.out HX.out.bel)
                        clear hl6 hm6
                        go_wp2_with fail
                        go_ret2
                        exact ⟨HBE.out, _, (by rw [HKF.out]; rfl), fun h => by rw [HKF.out] at h; cases h⟩
                      · have HKT := Lib.hid (HOK.out HFL3.out.symm)
                        rw [← HW6.out] at HKT
                        have HOX := Lib.hid HX.out.own
                        have HD := Lib.hid (rdecode_any _ _ _ _ QQ hl6 hm6 (EOwn.rb HX.out.own))
                        have HBX := Lib.hid HX.out.bel
                        have HWX := Lib.hid HW6.out.symm
                        unfold DecP at HD
                        generalize decR QQ = x at *
                        obtain ⟨er, r2⟩ := x
                        simp only at HD HKT
                        clear hl6 hm6 HX
                        go_wp2_with fail
                        refine HD.out.mono ?_
                        rintro e w7 ⟨rfl, hb7⟩
                        have HB7 := Lib.hid (below_trans HBX.out hb7)
                        have HO7 := Lib.hid (HOX.out.below hb7)
                        have hst : (stQ (.pointer (some ⟨w7.heap.size, 0, none⟩)) (.agg r2.cs)).run Try.prog (w7.alloc (.cells #[.int .i64 0, .int .i64 0, .int .i64 0, .int .u64 0, .int .i64 0, .int .i64 0, .int .i64 0, .int .i64 0, .int .i64 0, .string ⟨#[]⟩, .int .i64 0, .int .i64 0, .int .i64 0, .int .i64 0, .int .i64 0, .int .i64 0, .int .i64 0, .int .u64 0, .int .i64 0, .int .u64 0, .int .i64 0, .int .i64 0, .int .i64 0, .int .i64 0] TQ)) = .ok () (w7.alloc (.cells r2.cs TQ)) := run_stQ (r := r2) (r0 := Rq.z)
                        have hb8 : Below w7.heap.size w7 (w7.alloc (.cells r2.cs TQ)) := (Below.refl _ _).alloc (Nat.le_refl _) _
                        have hl5 := run_ldQ (Blk.new w7 TQ r2.cs)
                        have hl1 := run_ldQ ((HK1.out.thru0 HB7.out).thru0 hb8)
                        have hv5 := run_ldV (Blk.new w7 TQ r2.cs)
                        have hv1 := run_ldV ((HK1.out.thru0 HB7.out).thru0 hb8)
                        have HB8 := Lib.hid (below_trans HB1.out (below_trans HB7.out hb8))
                        have HO8 := Lib.hid (HO7.out.below hb8)
                        have HP5 := Lib.hid (Blk.new w7 TQ r2.cs)
                        have HP1 := Lib.hid ((HK1.out.thru0 HB7.out).thru0 hb8)
                        clear hb7 hb8 HD HBX HOX HO7 hl5 hl1 hv5 hv1
                        by_cases he : er = 0
                        · subst he
                          cases hq : eqQ r2 r with
                          | true =>
                            have HKV : Hid (refOk r = true) := Lib.hid (by rw [HKT.out, hq]; rfl)
                            go_upto_region 42 with fail
                            have hq5 := fun q => run_ldQ (HP5.out.drewN q)
                            have hq1 := fun q => run_ldQ (HP1.out.drewN q)
                            have hq5d := run_ldQ HP5.out.drew
                            have hq1d := run_ldQ HP1.out.drew
                            go_quiet (fail)
                            rename Nat => nq9
                            go_wp2_with fail
                            go_ret2
                            exact ⟨below_drawn HB8.out nq9, _, (by rw [HKV.out]; rfl), fun _ => by rw [HWX.out]; exact HO8.out.below (below_drawn (Below.refl _ _) nq9)⟩
                          | false =>
                            have HKV : Hid (refOk r = false) := Lib.hid (by rw [HKT.out, hq, Bool.and_false])
                            go_upto_region 42 with fail
                            have hq5 := fun q => run_ldQ (HP5.out.drewN q)
                            have hq1 := fun q => run_ldQ (HP1.out.drewN q)
                            have hq5d := run_ldQ HP5.out.drew
                            have hq1d := run_ldQ HP1.out.drew
                            go_quiet (fail)
                            rename Nat => nq9
                            go_wp2_with fail
                            go_ret2
                            exact ⟨below_drawn HB8.out nq9, _, (by rw [HKV.out]; rfl), fun h => by rw [HKV.out] at h; cases h⟩
                        · have hne : (er == 0) = false := by simpa using he
                          have hnd : decide (er = 0) = false := decide_eq_false he
                          have HKV : Hid (refOk r = false) := Lib.hid (by rw [HKT.out, decide_eq_false he, Bool.false_and])
                          clear he
                          go_upto_region 42 with fail
                          go_quiet (fail)
                          rename Nat => nq9
                          go_wp2_with fail
                          go_ret2
                          exact ⟨below_drawn HB8.out nq9, _, (by rw [HKV.out]; rfl), fun h => by rw [HKV.out] at h; cases h⟩
end
end
section
set_option linter.unusedVariables false
set_option linter.unusedSimpArgs false
open Go.RowKit
section
attribute [local go_sem ↓] to_ldQ to_stQ to_ldV eq_req
set_option maxRecDepth 100000 in
set_option maxHeartbeats 16000000 in
theorem rbytes_7 (r : Rq) (hr : r.Ok) (w : World) (hk : r.op = 7) (hm : r.m ≤ 64) (ht : r.text.length ≤ 512) : Calls Try.prog 12 #[.agg r.cs] w fun e w' => RByP r w e w' := by
  have HR := Lib.hid hr
  have HTH := Lib.hid (fun w => there19_any r.op w)
  rw [decide_eq_true (show 1 ≤ r.op ∧ r.op ≤ 19 by omega), hk] at HTH
  have e0 : r.cs[0]? = some (.int .i64 7) := by rw [← hk]; rfl
  have e1 : r.cs[1]? = some (.int .i64 r.ten) := rfl
  have e2 : r.cs[2]? = some (.int .i64 r.usr) := rfl
  have e3 : r.cs[3]? = some (.int .u64 (r.sec : Int)) := rfl
  have e4 : r.cs[4]? = some (.int .i64 r.m) := rfl
  have e5 : r.cs[5]? = some (.int .i64 r.who) := rfl
  have e6 : r.cs[6]? = some (.int .i64 r.role) := rfl
  have e7 : r.cs[7]? = some (.int .i64 r.tier) := rfl
  have e8 : r.cs[8]? = some (.int .i64 r.quota) := rfl
  have e9 : r.cs[9]? = some (.string (bs r.text)) := rfl
  have e10 : r.cs[10]? = some (.int .i64 r.rights) := rfl
  have e11 : r.cs[11]? = some (.int .i64 r.zoom) := rfl
  have e12 : r.cs[12]? = some (.int .i64 r.x0) := rfl
  have e13 : r.cs[13]? = some (.int .i64 r.y0) := rfl
  have e14 : r.cs[14]? = some (.int .i64 r.x1) := rfl
  have e15 : r.cs[15]? = some (.int .i64 r.y1) := rfl
  have e16 : r.cs[16]? = some (.int .i64 r.til) := rfl
  have e17 : r.cs[17]? = some (.int .u64 (r.oth : Int)) := rfl
  have e18 : r.cs[18]? = some (.int .i64 r.k) := rfl
  have e19 : r.cs[19]? = some (.int .u64 (r.area : Int)) := rfl
  have e20 : r.cs[20]? = some (.int .i64 r.px) := rfl
  have e21 : r.cs[21]? = some (.int .i64 r.py) := rfl
  have e22 : r.cs[22]? = some (.int .i64 r.lab) := rfl
  have e23 : r.cs[23]? = some (.int .i64 r.fro) := rfl
  have HKE := Lib.hid (refK_eq r 7 hk)
  have HWE := Lib.hid (refW_eq r 7 hk)
  have HOK := Lib.hid (fun h => refOk_eq (r := r) (by omega) hm ht h)
  have HOM := Lib.hid (show r.op = 7 from hk)
  have HTX := Lib.hid ht
  have hnm : ¬ 64 < r.m := by omega
  have hnt : ¬ (512 : Int) < ((bs r.text).size : Int) := by rw [bs_size]; omega
  have k0 := (Blk.new w TQ r.cs).cell 0; simp only [e0] at k0
  have k1 := (Blk.new w TQ r.cs).cell 1; simp only [e1] at k1
  have k2 := (Blk.new w TQ r.cs).cell 2; simp only [e2] at k2
  have k4 := (Blk.new w TQ r.cs).cell 4; simp only [e4] at k4
  have k9 := (Blk.new w TQ r.cs).cell 9; simp only [e9] at k9
  obtain ⟨W1, hW1⟩ : ∃ W1, W1 = ((w.alloc (.cells r.cs TQ)).alloc (.cells #[.int .i64 7, .int .i64 r.ten, .int .i64 r.usr] 3)).alloc (.cells #[.int .i64 1, .int .i64 1, .int .i64 2] 3) := ⟨_, rfl⟩
  have HB1 := Lib.hid (show Below w.heap.size w W1 by rw [hW1]; exact (((Below.refl _ _).alloc (Nat.le_refl _) _).alloc (by simp) _).alloc (by simp; omega) _)
  have HK1 := Lib.hid (show Blk W1 w.heap.size TQ r.cs by rw [hW1]; exact ((Blk.new w TQ r.cs).alloc _).alloc _)
  have HVA := Lib.hid (show EOwn elV W1 (.slice (some ⟨w.heap.size + 1, 0, none⟩) 3 3) [r.op, r.ten, r.usr] by rw [hW1, hk]; exact EOwn.block (M := [7, r.ten, r.usr]) elV_ok ((Blk.newAt (by simp)).alloc _) rfl (by simp))
  have HFA := Lib.hid (show EOwn elW W1 (.slice (some ⟨w.heap.size + 1 + 1, 0, none⟩) 3 3) [1, 1, 2] by rw [hW1]; exact EOwn.block (M := [1, 1, 2]) elW_ok (Blk.newAt (by simp)) rfl (by simp))
  have HXN : Hid (3 = ([r.op, r.ten, r.usr] : List Int).length ∧ ([r.op, r.ten, r.usr] : List Int).length ≤ ([1, 1, 2] : List Nat).length ∧ (3 : Nat) ≤ 10) := Lib.hid ⟨rfl, by simp, by decide⟩
  have HKS : Hid (∀ x ∈ ([1, 1, 2] : List Nat), 1 ≤ x ∧ x ≤ 8) := Lib.hid (by decide)
  have HNV : Hid (∀ (i : Nat), (Value.slice (some ⟨w.heap.size + 1, 0, none⟩) 3 3).ownBlock = some i → (Value.slice none 0 0).ownBlock = some i → False) := Lib.hid (fun i _ h => by simp [Value.ownBlock] at h)
  have HNF : Hid (∀ (i : Nat), (Value.slice (some ⟨w.heap.size + 1 + 1, 0, none⟩) 3 3).ownBlock = some i → (Value.slice none 0 0).ownBlock = some i → False) := Lib.hid (fun i _ h => by simp [Value.ownBlock] at h)
  have HF0 := Lib.hid (FBy.nil_ W1 W1 (Below.refl _ _))
  have HL0 : Hid (([] : Bs).length ≤ 0) := Lib.hid (by simp)
  have HZ1 : Hid ((([r.op, r.ten, r.usr] : List Int).zip [1, 1, 2]).take 3 = [(r.op, 1), (r.ten, 1), (r.usr, 2)]) := Lib.hid rfl
  have hWs := hW1.symm
  clear hW1
  go_enter Try.func12, Try.ntmps12
  go_wp2_with fail
  refine (HTH.out _).mono ?_
  rintro e w0 ⟨rfl, hw0⟩
  subst hw0
  go_wp2_with fail
  go_loopw [4, 7, 8, 9] (fun bq okq fq iq wr => ∃ (j : Nat) (f : Bool), j ≤ 3 ∧ iq = .int .i64 j ∧ fq = .bool f ∧ (∃ o : Bool, okq = .bool o) ∧ Hid (f = (true && datK ((([r.op, r.ten, r.usr] : List Int).zip ([1, 1, 2] : List Nat)).take j))) ∧ Hid (Ap W1 W1 (Value.slice none 0 0) (([] : Bs) ++ datB ((([r.op, r.ten, r.usr] : List Int).zip ([1, 1, 2] : List Nat)).take j)) bq wr)) (fun _ _ _ i _ => 3 - (intOf i).toNat)
  case atStart => exact ⟨0, _, Nat.zero_le _, rfl, rfl, ⟨_, rfl⟩, by simp [datK, Hid], by simpa [datB, Hid] using Ap.refl HF0.out⟩
  case round =>
    rename World => wr
    obtain ⟨j, f, hj, rfl, rfl, ⟨o, rfl⟩, HFL, HA⟩ := hrel
    by_cases hlt : j < 3
    · have hj1 : j < (([r.op, r.ten, r.usr] : List Int)).length := by have := HXN.out; omega
      have hj2 : j < (([1, 1, 2] : List Nat)).length := by have := HXN.out; omega
      have HZS := Lib.hid (zip_step (([r.op, r.ten, r.usr] : List Int)) (([1, 1, 2] : List Nat)) j hj1 hj2)
      have HX0 := Lib.hid (List.getElem?_eq_getElem hj1)
      have HY0 := Lib.hid (List.getElem?_eq_getElem hj2)
      have HK8 := Lib.hid (HKS.out _ (List.getElem_mem hj2))
      have HLQ : Hid ((([] : Bs) ++ datB ((([r.op, r.ten, r.usr] : List Int).zip ([1, 1, 2] : List Nat)).take j)).length ≤ 1000) := Lib.hid (by have h1 := zip_le (([r.op, r.ten, r.usr] : List Int)) (([1, 1, 2] : List Nat)) (fun x hx => (HKS.out x hx).2) j; have h2 := HL0.out; have h3 := HXN.out; rw [List.length_append]; omega)
      have HB1 := Lib.hid (datB_snoc ((([r.op, r.ten, r.usr] : List Int).zip ([1, 1, 2] : List Nat)).take j) ((([r.op, r.ten, r.usr] : List Int))[j], (([1, 1, 2] : List Nat))[j]))
      have HK1 := Lib.hid (datK_snoc ((([r.op, r.ten, r.usr] : List Int).zip ([1, 1, 2] : List Nat)).take j) ((([r.op, r.ten, r.usr] : List Int))[j], (([1, 1, 2] : List Nat))[j]))
      rw [← HZS.out] at HB1 HK1
      have HBQ : Hid (([] : Bs) ++ datB ((([r.op, r.ten, r.usr] : List Int).zip ([1, 1, 2] : List Nat)).take (j + 1)) = (([] : Bs) ++ datB ((([r.op, r.ten, r.usr] : List Int).zip ([1, 1, 2] : List Nat)).take j)) ++ wputB (([r.op, r.ten, r.usr] : List Int))[j] (([1, 1, 2] : List Nat))[j]) := Lib.hid (by rw [HB1.out, List.append_assoc])
      have HKQ : Hid ((true && datK ((([r.op, r.ten, r.usr] : List Int).zip ([1, 1, 2] : List Nat)).take (j + 1))) = (f && wputK (([r.op, r.ten, r.usr] : List Int))[j] (([1, 1, 2] : List Nat))[j])) := Lib.hid (by rw [HK1.out, HFL.out, Bool.and_assoc])
      clear HB1 HK1 HZS HFL
      generalize (([r.op, r.ten, r.usr] : List Int))[j] = x at *
      generalize (([1, 1, 2] : List Nat))[j] = k at *
      clear hj1 hj2
      generalize (([] : Bs) ++ datB ((([r.op, r.ten, r.usr] : List Int).zip ([1, 1, 2] : List Nat)).take j)) = Q at *
      have HPU := Lib.hid (fun (X : World) (v : Value) (hX : FBy W1 v Q X) => wput_any W1 X v Q x k HK8.out.1 HK8.out.2 hX (by have := HLQ.out; omega))
      generalize wputK x k = o2 at *
      have HS := Lib.hid (fun (w' : World) (Q' : Bs) (v' : Value) (h : Ap W1 W1 (Value.slice none 0 0) Q' v' w') => And.intro (show w'.cell? ⟨w.heap.size + 1, j, none⟩ = some (.int .i64 x) from (HVA.out.keep fun i hi e => h.keep i hi (fun e2 => HNV.out i e e2)).vcell HX0.out) (show w'.cell? ⟨w.heap.size + 1 + 1, j, none⟩ = some (.int .i64 (k : Int)) from (HFA.out.keep fun i hi e => h.keep i hi (fun e2 => HNF.out i e e2)).wcell HY0.out))
      obtain ⟨kx, kk⟩ := HS.out _ _ _ HA.out
      go_upto_region 11 with fail
      go_region_held3 (fun w' => w'.cell? ⟨w.heap.size + 1, j, none⟩ = some (.int .i64 x) ∧ w'.cell? ⟨w.heap.size + 1 + 1, j, none⟩ = some (.int .i64 (k : Int))) (first | (exact HS.out _ _ _ (by first | (with_reducible exact HA9.out) | (with_reducible exact HA.out) | exact HA.out.below (by first | exact Below.refl _ _ | (go_grown; done) | exact below_drawn (Below.refl _ _) _))) | go_keep) (first | (go_at_call 27; refine (HPU.out _ _ (HA.out.f.below (by first | exact Below.refl _ _ | (go_grown; done) | exact below_drawn (Below.refl _ _) _))).mono ?_; rintro e w9 ⟨v9, rfl, ha9⟩; have haX := HA.out.step (Ap.pre (w := wr) (by first | exact Below.refl _ _ | (go_grown; done) | exact below_drawn (Below.refl _ _) _) ha9); have HA9 := Lib.hid haX))
      all_goals
        cases f
        · go_wp2_with fail
          go_roundw
          case rel => exact ⟨j + 1, _, by omega, by go_num, rfl, ⟨_, rfl⟩, Lib.hid (by rw [HKQ.out]; rfl), Lib.hid (by rw [HBQ.out]; exact HA9.out)⟩
          case measure => simp [intOf]; omega
        · go_wp2_with fail
          go_roundw
          case rel => exact ⟨j + 1, _, by omega, by go_num, rfl, ⟨_, rfl⟩, Lib.hid (by rw [HKQ.out]; rfl), Lib.hid (by rw [HBQ.out]; exact HA9.out)⟩
          case measure => simp [intOf]; omega
    · obtain rfl : j = 3 := by omega
      rw [HZ1.out, List.nil_append] at HA
      rw [HZ1.out, Bool.true_and] at HFL
      clear HXN HKS HNV HNF HL0 HZ1 HVA HFA
      obtain ⟨PS, hPS⟩ : ∃ PS, PS = be 8 r.sec := ⟨_, rfl⟩
      have HPS := Lib.hid hPS
      have HPL : Hid (8 = PS.length) := Lib.hid (by rw [hPS, be_length])
      have HPP := Lib.hid (fun w => refput_any 8 r.sec (by decide) (by decide) HR.out.sec w)
      unfold RPost at HPP
      rw [← hPS] at HPP
      have HQ1 : Hid ((datB [(r.op, 1), (r.ten, 1), (r.usr, 2)]).length ≤ 24) := Lib.hid (datB_le _ (by simp))
      obtain ⟨Q1, hQ1⟩ : ∃ Q1, Q1 = datB [(r.op, 1), (r.ten, 1), (r.usr, 2)] := ⟨_, rfl⟩
      have HQE := Lib.hid hQ1
      rw [← hQ1] at HA HQ1
      obtain ⟨F1, hF1⟩ : ∃ F1, F1 = datK [(r.op, 1), (r.ten, 1), (r.usr, 2)] := ⟨_, rfl⟩
      rw [← hF1] at HFL
      have HF1 := Lib.hid hF1
      clear hPS hQ1 hF1
      have k3 := (HK1.out.thru0 HA.out.f.bel).cell 3; simp only [e3] at k3
      have HFA := Lib.hid HA.out.f
      clear HA
      go_wp2_with fail
      refine (HPP.out _).mono ?_
      rintro e w2 ⟨l, rfl, hown, hb⟩
      obtain ⟨g, cap, cur, rfl, hgb, hbl, hce⟩ := own_cells hown (by decide)
      have HBK := Lib.hid hbl
      have HCE := Lib.hid hce
      have HVG : Hid (u4.ownBlock ≠ some g) := Lib.hid (fun e => by have := HFA.out.own.lt e; omega)
      have HF2 := Lib.hid (HFA.out.below hb)
      clear hown hb hgb hbl hce k3 HPP
      go_wp2_with fail
      go_loopw [4, 12] (fun bq iq wr => ∃ j : Nat, j ≤ 8 ∧ iq = .int .i64 j ∧ Hid (Ap W1 w2 u4 (Q1 ++ (PS).take j) bq wr)) (fun _ i _ => 8 - (intOf i).toNat)
      case atStart => exact ⟨0, Nat.zero_le _, rfl, by simpa [Hid] using Ap.refl HF2.out⟩
      case round =>
        rename World => wr
        obtain ⟨j, hj, rfl, HA⟩ := hrel
        obtain ⟨A2, c2, hv, hl2, hm2⟩ := HA.out.f.own.slice
        by_cases hlt : j < 8
        · have hjl : j < (PS).length := by have := HPL.out; omega
          have HTK : Hid (Q1 ++ (PS).take (j + 1) = (Q1 ++ (PS).take j) ++ [(PS)[j]]) := Lib.hid (by rw [List.take_succ_eq_append_getElem hjl, List.append_assoc])
          have kc := (HA.out.blk HBK.out HVG.out).cell j
          rw [HCE.out j PS[j] (List.getElem?_eq_getElem hjl)] at kc
          generalize (PS)[j] = x at *
          have HLQ : Hid ((Q1 ++ (PS).take j).length ≤ 2000) := Lib.hid (by have h1 := HQ1.out; have h2 := HPL.out; rw [List.length_append, List.length_take]; omega)
          generalize Q1 ++ (PS).take j = Q at *
          generalize Q.length = lj at hv hl2
          subst hv
          clear hl2 hm2 hjl
          have HOW := Lib.hid (HA.out.f.own.below ((Below.refl _ _).alloc (Nat.le_refl _) (.cells #[.int .u8 (x.toNat : Int)] 5)))
          have HRM := Lib.hid (one_new2 wr x 5)
          go_wp2_with ((at_builtin; go_loud (refine wpList_eappr2 (e2 := 5) elB_ok rfl _ _ 22 22 rfl (by kernel_rfl) (by kernel_rfl) _ Q [x] (some ⟨wr.heap.size, 0, none⟩) 1 rfl rfl HOW.out HRM.out (by have := HLQ.out; simp only [maxLen, List.length_cons, List.length_nil]; omega) (by have := HLQ.out; have h1 : elB.by_ = 1 := rfl; rw [h1, List.length_cons, List.length_nil]; omega) ?_; intro v' w9 hA; have HA9 := Lib.hid (HA.out.app ((Below.refl _ _).alloc (Nat.le_refl _) _) hA); clear hA)))
          go_roundw
          case rel => exact ⟨j + 1, by omega, by go_num, Lib.hid (by rw [HTK.out]; exact HA9.out)⟩
          case measure => simp [intOf]; omega
        · obtain rfl : j = 8 := by omega
          have HT2 : Hid ((PS).take 8 = PS) := Lib.hid (List.take_of_length_le (by have := HPL.out; omega))
          rw [HT2.out] at HA hv
          clear HT2
          generalize (Q1 ++ PS).length = lj at hv hl2
          subst hv
          clear hl2 hm2
          have HFB := Lib.hid HA.out.f
          clear HA
          have HQL : Hid ((Q1 ++ PS).length ≤ 40) := Lib.hid (by rw [List.length_append]; have := HQ1.out; have := HPL.out; omega)
          have k4 := (HK1.out.thru0 HFB.out.bel).cell 4; simp only [e4] at k4
          go_wp2_with fail
          refine (wput_any W1 _ _ (Q1 ++ PS) r.m 1 (by decide) (by decide) HFB.out (by have := HQL.out; omega)).mono ?_
          rintro e w3 ⟨v3, rfl, ha3⟩
          have HF3b := Lib.hid ha3.f
          have HQL2 : Hid (((Q1 ++ PS) ++ wputB r.m 1).length ≤ 60) := Lib.hid (by have h1 := HQL.out; have h2 := wputB_le r.m 1; rw [List.length_append]; omega)
          have HQE2 : Hid ((Q1 ++ PS) ++ wputB r.m 1 = (datB [(r.op, 1), (r.ten, 1), (r.usr, 2)] ++ be 8 r.sec) ++ wputB r.m 1) := Lib.hid (by rw [HQE.out, HPS.out])
          generalize (Q1 ++ PS) ++ wputB r.m 1 = Q2 at *
          clear ha3 k4
          obtain ⟨o3, ho3⟩ : ∃ o3, o3 = wputK r.m 1 := ⟨_, rfl⟩
          have HO3 := Lib.hid ho3
          rw [← ho3]
          clear ho3
          cases f
          · have HFM : Hid (false = (F1 && o3)) := Lib.hid (by rw [← HFL.out]; rfl)
            have hld := run_ldQ (HK1.out.thru0 HF3b.out.bel)
            have k0 := (HK1.out.thru0 HF3b.out.bel).cell 0; simp only [e0] at k0
            go_wp2_with fail
            refine (rvals_any r w3).mono ?_
            rintro e w4 ⟨gv, rfl, hov, hgv, hb4⟩
            have HB4 := Lib.hid hb4
            have HOV := Lib.hid hov
            have HGV := Lib.hid hgv
            clear hld k0 hov hgv hb4
            have k0 := (HK1.out.thru0 (below_trans HF3b.out.bel HB4.out)).cell 0; simp only [e0] at k0
            go_wp2_with fail
            refine (fld_any 7 (by omega) (by omega) w4).mono ?_
            rintro e w5 ⟨gf, rfl, hof, hgf, hb5⟩
            have HB5 := Lib.hid (below_trans HB4.out hb5)
            have HOV5 := Lib.hid (HOV.out.below hb5)
            have HOF := Lib.hid hof
            have HGF := Lib.hid hgf
            have HS4 := Lib.hid HB4.out.size
            have HF5 := Lib.hid (HF3b.out.below HB5.out)
            have HVB := Lib.hid (fun i (hi : v3.ownBlock = some i) => HF3b.out.own.lt hi)
            clear k0 hof hgf hb5 HOV
            have HXL := Lib.hid (vals_len r 7 hk (by omega) (by omega))
            have HWL := Lib.hid (widL_le 7)
            generalize valsN r = XS at *
            generalize widL 7 = KS at *
            obtain ⟨nv, hnv⟩ : ∃ n, n = XS.length := ⟨_, rfl⟩
            obtain ⟨nf, hnf⟩ : ∃ n, n = KS.length := ⟨_, rfl⟩
            rw [← hnv] at HOV5 ⊢
            rw [← hnf] at HOF ⊢
            have HXN3 : Hid (nv = XS.length ∧ XS.length ≤ KS.length ∧ nv ≤ 10) := Lib.hid (by have h1 := HXL.out; have h2 := HWL.out.1; omega)
            have HKS3 : Hid (∀ x ∈ KS, 1 ≤ x ∧ x ≤ 8) := Lib.hid HWL.out.2
            have HNV3 : Hid (∀ (i : Nat), (Value.slice (some ⟨gv, 0, none⟩) nv nv).ownBlock = some i → v3.ownBlock = some i → False) := Lib.hid (fun i h1 h2 => by simp [Value.ownBlock] at h1; have h3 := HVB.out i h2; have h4 := HGV.out; omega)
            have HNF3 : Hid (∀ (i : Nat), (Value.slice (some ⟨gf, 0, none⟩) nf nf).ownBlock = some i → v3.ownBlock = some i → False) := Lib.hid (fun i h1 h2 => by simp [Value.ownBlock] at h1; have h3 := HVB.out i h2; have h4 := HGF.out; have h5 := HS4.out; omega)
            have HZ3 : Hid ((XS.zip KS).take nv = XS.zip KS) := Lib.hid (by rw [hnv]; exact zip_all XS KS HXN3.out.2.1)
            have HVF : Hid (nv ≤ nf) := Lib.hid (by have := HXN3.out; omega)
            clear hnv hnf
            go_wp2_with fail
            go_loopw [4, 7, 8, 15] (fun bq okq fq iq wr => ∃ (j : Nat) (f : Bool), j ≤ nv ∧ iq = .int .i64 j ∧ fq = .bool f ∧ (∃ o : Bool, okq = .bool o) ∧ Hid (f = (false && datK ((XS.zip KS).take j))) ∧ Hid (Ap W1 w5 v3 (Q2 ++ datB ((XS.zip KS).take j)) bq wr)) (fun _ _ _ i _ => nv - (intOf i).toNat)
            case atStart => exact ⟨0, _, Nat.zero_le _, rfl, rfl, ⟨_, rfl⟩, by simp [datK, Hid], by simpa [datB, Hid] using Ap.refl HF5.out⟩
            case round =>
              rename World => wr
              obtain ⟨j, f, hj, rfl, rfl, ⟨o, rfl⟩, HFL, HA⟩ := hrel
              by_cases hlt : j < nv
              · have hnf9 : j < nf := by have := HVF.out; omega
                have hnv9 : nv ≤ 10 := HXN3.out.2.2
                have hj1 : j < (XS).length := by have := HXN3.out; omega
                have hj2 : j < (KS).length := by have := HXN3.out; omega
                have HZS := Lib.hid (zip_step (XS) (KS) j hj1 hj2)
                have HX0 := Lib.hid (List.getElem?_eq_getElem hj1)
                have HY0 := Lib.hid (List.getElem?_eq_getElem hj2)
                have HK8 := Lib.hid (HKS3.out _ (List.getElem_mem hj2))
                have HLQ : Hid ((Q2 ++ datB ((XS.zip KS).take j)).length ≤ 1000) := Lib.hid (by have h1 := zip_le (XS) (KS) (fun x hx => (HKS3.out x hx).2) j; have h2 := HQL2.out; have h3 := HXN3.out; rw [List.length_append]; omega)
                have HB1 := Lib.hid (datB_snoc ((XS.zip KS).take j) ((XS)[j], (KS)[j]))
                have HK1 := Lib.hid (datK_snoc ((XS.zip KS).take j) ((XS)[j], (KS)[j]))
                rw [← HZS.out] at HB1 HK1
                have HBQ : Hid (Q2 ++ datB ((XS.zip KS).take (j + 1)) = (Q2 ++ datB ((XS.zip KS).take j)) ++ wputB (XS)[j] (KS)[j]) := Lib.hid (by rw [HB1.out, List.append_assoc])
                have HKQ : Hid ((false && datK ((XS.zip KS).take (j + 1))) = (f && wputK (XS)[j] (KS)[j])) := Lib.hid (by rw [HK1.out, HFL.out, Bool.and_assoc])
                clear HB1 HK1 HZS HFL
                generalize (XS)[j] = x at *
                generalize (KS)[j] = k at *
                clear hj1 hj2
                generalize (Q2 ++ datB ((XS.zip KS).take j)) = Q at *
                have HPU := Lib.hid (fun (X : World) (v : Value) (hX : FBy W1 v Q X) => wput_any W1 X v Q x k HK8.out.1 HK8.out.2 hX (by have := HLQ.out; omega))
                generalize wputK x k = o2 at *
                have HS := Lib.hid (fun (w' : World) (Q' : Bs) (v' : Value) (h : Ap W1 w5 v3 Q' v' w') => And.intro (show w'.cell? ⟨gv, j, none⟩ = some (.int .i64 x) from (HOV5.out.keep fun i hi e => h.keep i hi (fun e2 => HNV3.out i e e2)).vcell HX0.out) (show w'.cell? ⟨gf, j, none⟩ = some (.int .i64 (k : Int)) from (HOF.out.keep fun i hi e => h.keep i hi (fun e2 => HNF3.out i e e2)).wcell HY0.out))
                obtain ⟨kx, kk⟩ := HS.out _ _ _ HA.out
                go_upto_region 25 with fail
                go_region_held3 (fun w' => w'.cell? ⟨gv, j, none⟩ = some (.int .i64 x) ∧ w'.cell? ⟨gf, j, none⟩ = some (.int .i64 (k : Int))) (first | (exact HS.out _ _ _ (by first | (with_reducible exact HA9.out) | (with_reducible exact HA.out) | exact HA.out.below (by first | exact Below.refl _ _ | (go_grown; done) | exact below_drawn (Below.refl _ _) _))) | go_keep) (first | (go_at_call 27; refine (HPU.out _ _ (HA.out.f.below (by first | exact Below.refl _ _ | (go_grown; done) | exact below_drawn (Below.refl _ _) _))).mono ?_; rintro e w9 ⟨v9, rfl, ha9⟩; have haX := HA.out.step (Ap.pre (w := wr) (by first | exact Below.refl _ _ | (go_grown; done) | exact below_drawn (Below.refl _ _) _) ha9); have HA9 := Lib.hid haX))
                all_goals
                  cases f
                  · go_wp2_with fail
                    go_roundw
                    case rel => exact ⟨j + 1, _, by omega, by go_num, rfl, ⟨_, rfl⟩, Lib.hid (by rw [HKQ.out]; rfl), Lib.hid (by rw [HBQ.out]; exact HA9.out)⟩
                    case measure => simp [intOf]; omega
                  · go_wp2_with fail
                    go_roundw
                    case rel => exact ⟨j + 1, _, by omega, by go_num, rfl, ⟨_, rfl⟩, Lib.hid (by rw [HKQ.out]; rfl), Lib.hid (by rw [HBQ.out]; exact HA9.out)⟩
                    case measure => simp [intOf]; omega
              · obtain rfl : j = nv := by omega
                rw [HZ3.out] at HFL HA
                have HFL3 : Hid (f = refK r) := Lib.hid (by rw [HKE.out, HFL.out, ← HF1.out, ← HO3.out, ← HFM.out])
                have HXA := Lib.hid HA.out.f
                obtain ⟨QN, hQN⟩ : ∃ QN, QN = datB (XS.zip KS) := ⟨_, rfl⟩
                have HQN := Lib.hid hQN
                have HQN8 : Hid (QN.length ≤ 90) := Lib.hid (by rw [hQN]; have h1 := datB_le (XS.zip KS) (fun p hp => (HKS3.out p.2 (List.of_mem_zip hp).2).2); have h2 := HXN3.out; rw [List.length_zip] at h1; omega)
                rw [← hQN] at HXA
                clear hQN HA HFL
                have k19 := (HK1.out.thru0 HXA.out.bel).cell 19; simp only [e19] at k19
                have k0 := (HK1.out.thru0 HXA.out.bel).cell 0; simp only [e0] at k0
                have HP2 := Lib.hid (fun w => refput_any 8 r.area (by decide) (by decide) HR.out.area w)
                unfold RPost at HP2
                go_wp2_with fail
                refine (HP2.out _).mono ?_
                rintro e w6 ⟨l2, rfl, hown2, hb2⟩
                have HX6 := Lib.hid (HXA.out.below hb2)
                obtain ⟨g2, cap2, cur2, rfl, hgb2, hbl2, hce2⟩ := own_cells hown2 (by decide)
                have HBK2 := Lib.hid hbl2
                have HCE2 := Lib.hid hce2
                have HVG2 : Hid (u4.ownBlock ≠ some g2) := Lib.hid (fun e => by have := HXA.out.own.lt e; omega)
                obtain ⟨Q3, hQ3⟩ : ∃ x, x = Q2 ++ QN := ⟨_, rfl⟩
                have HQ3 := Lib.hid hQ3
                have HQ38 : Hid (Q3.length ≤ 160) := Lib.hid (by rw [hQ3, List.length_append]; have h1 := HQL2.out; have h2 := HQN8.out; omega)
                rw [← hQ3] at HX6
                clear hown2 hb2 hgb2 hbl2 hce2 k19 k0 HXA HP2 hQ3
                obtain ⟨PT, hPT⟩ : ∃ PT, PT = be 8 r.area := ⟨_, rfl⟩
                have HPT := Lib.hid hPT
                have HPTL : Hid (8 = PT.length) := Lib.hid (by rw [hPT, be_length])
                rw [← hPT] at HCE2
                clear hPT
                have k0 := (HK1.out.thru0 HX6.out.bel).cell 0; simp only [e0] at k0
                go_wp2_with fail
                clear k0
                go_loopw [4, 17] (fun bq iq wr => ∃ j : Nat, j ≤ 8 ∧ iq = .int .i64 j ∧ Hid (Ap W1 w6 u4 (Q3 ++ (PT).take j) bq wr)) (fun _ i _ => 8 - (intOf i).toNat)
                case atStart => exact ⟨0, Nat.zero_le _, rfl, by simpa [Hid] using Ap.refl HX6.out⟩
                case round =>
                  rename World => wr
                  obtain ⟨j, hj, rfl, HA⟩ := hrel
                  obtain ⟨A2, c2, hv, hl2, hm2⟩ := HA.out.f.own.slice
                  by_cases hlt : j < 8
                  · have hjl : j < (PT).length := by have := HPTL.out; omega
                    have HTK : Hid (Q3 ++ (PT).take (j + 1) = (Q3 ++ (PT).take j) ++ [(PT)[j]]) := Lib.hid (by rw [List.take_succ_eq_append_getElem hjl, List.append_assoc])
                    have kc := (HA.out.blk HBK2.out HVG2.out).cell j
                    rw [HCE2.out j PT[j] (List.getElem?_eq_getElem hjl)] at kc
                    have k0 := (HK1.out.thru0 HA.out.f.bel).cell 0; simp only [e0] at k0
                    generalize (PT)[j] = x at *
                    have HLQ : Hid ((Q3 ++ (PT).take j).length ≤ 2000) := Lib.hid (by have h1 := HQ38.out; have h2 := HPTL.out; rw [List.length_append, List.length_take]; omega)
                    generalize Q3 ++ (PT).take j = Q at *
                    generalize Q.length = lj at hv hl2
                    subst hv
                    clear hl2 hm2 hjl
                    have HOW := Lib.hid (HA.out.f.own.below ((Below.refl _ _).alloc (Nat.le_refl _) (.cells #[.int .u8 (x.toNat : Int)] 5)))
                    have HRM := Lib.hid (one_new2 wr x 5)
                    go_wp2_with ((at_builtin; go_loud (refine wpList_eappr2 (e2 := 5) elB_ok rfl _ _ 22 22 rfl (by kernel_rfl) (by kernel_rfl) _ Q [x] (some ⟨wr.heap.size, 0, none⟩) 1 rfl rfl HOW.out HRM.out (by have := HLQ.out; simp only [maxLen, List.length_cons, List.length_nil]; omega) (by have := HLQ.out; have h1 : elB.by_ = 1 := rfl; rw [h1, List.length_cons, List.length_nil]; omega) ?_; intro v' w9 hA; have HA9 := Lib.hid (HA.out.app ((Below.refl _ _).alloc (Nat.le_refl _) _) hA); clear hA)))
                    go_roundw
                    case rel => exact ⟨j + 1, by omega, by go_num, Lib.hid (by rw [HTK.out]; exact HA9.out)⟩
                    case measure => simp [intOf]; omega
                  · obtain rfl : j = 8 := by omega
                    have HT2 : Hid ((PT).take 8 = PT) := Lib.hid (List.take_of_length_le (by have := HPTL.out; omega))
                    rw [HT2.out] at HA hv
                    clear HT2
                    generalize (Q3 ++ PT).length = lj at hv hl2
                    subst hv
                    clear hl2 hm2
                    have HX := Lib.hid HA.out.f
                    clear HA
                    have k0 := (HK1.out.thru0 HX.out.bel).cell 0; simp only [e0] at k0
                    have k9 := (HK1.out.thru0 HX.out.bel).cell 9; simp only [e9] at k9
                    go_wp2_with fail
                    refine wp_loop_rounds 1 ?_
                    rw [rounds_succ]
                    by_cases htp : (0 : Int) < ((bs r.text).size : Int)
                    all_goals
                      have HW6 : Hid ((Q3 ++ PT) = refW r) := Lib.hid (by rw [HWE.out, ← HQE2.out, HQ3.out, HQN.out, HPT.out]; simp [tailW])
                      obtain ⟨A6, c6, hv6, hl6, hm6⟩ := HX.out.own.slice
                      obtain ⟨QQ, hqq⟩ : ∃ x, x = (Q3 ++ PT) := ⟨_, rfl⟩
                      rw [← hqq] at HW6 HX hv6 hl6
                      clear hqq
                      obtain ⟨nq, hnq⟩ : ∃ n, n = QQ.length := ⟨_, rfl⟩
                      rw [← hnq] at hv6 hl6
                      clear hnq
                      first | subst hv6 | (injection hv6 with ea eb ec; subst ea; subst eb; subst ec)
                      cases f
                      · have HKF : Hid (refOk r = false) := Lib.hid (refOk_no HFL3.out.symm)
                        have HBE := Lib.hid (below_trans HB1.out HX.out.bel)
                        clear hl6 hm6
                        go_wp2_with fail
                        go_ret2
                        exact ⟨HBE.out, _, (by rw [HKF.out]; rfl), fun h => by rw [HKF.out] at h; cases h⟩
                      · have HKT := Lib.hid (HOK.out HFL3.out.symm)
                        rw [← HW6.out] at HKT
                        have HOX := Lib.hid HX.out.own
                        have HD := Lib.hid (rdecode_any _ _ _ _ QQ hl6 hm6 (EOwn.rb HX.out.own))
                        have HBX := Lib.hid HX.out.bel
                        have HWX := Lib.hid HW6.out.symm
                        unfold DecP at HD
                        generalize decR QQ = x at *
                        obtain ⟨er, r2⟩ := x
                        simp only at HD HKT
                        clear hl6 hm6 HX
                        go_wp2_with fail
                        refine HD.out.mono ?_
                        rintro e w7 ⟨rfl, hb7⟩
                        have HB7 := Lib.hid (below_trans HBX.out hb7)
                        have HO7 := Lib.hid (HOX.out.below hb7)
                        have hst : (stQ (.pointer (some ⟨w7.heap.size, 0, none⟩)) (.agg r2.cs)).run Try.prog (w7.alloc (.cells #[.int .i64 0, .int .i64 0, .int .i64 0, .int .u64 0, .int .i64 0, .int .i64 0, .int .i64 0, .int .i64 0, .int .i64 0, .string ⟨#[]⟩, .int .i64 0, .int .i64 0, .int .i64 0, .int .i64 0, .int .i64 0, .int .i64 0, .int .i64 0, .int .u64 0, .int .i64 0, .int .u64 0, .int .i64 0, .int .i64 0, .int .i64 0, .int .i64 0] TQ)) = .ok () (w7.alloc (.cells r2.cs TQ)) := run_stQ (r := r2) (r0 := Rq.z)
                        have hb8 : Below w7.heap.size w7 (w7.alloc (.cells r2.cs TQ)) := (Below.refl _ _).alloc (Nat.le_refl _) _
                        have hl5 := run_ldQ (Blk.new w7 TQ r2.cs)
                        have hl1 := run_ldQ ((HK1.out.thru0 HB7.out).thru0 hb8)
                        have hv5 := run_ldV (Blk.new w7 TQ r2.cs)
                        have hv1 := run_ldV ((HK1.out.thru0 HB7.out).thru0 hb8)
                        have HB8 := Lib.hid (below_trans HB1.out (below_trans HB7.out hb8))
                        have HO8 := Lib.hid (HO7.out.below hb8)
                        have HP5 := Lib.hid (Blk.new w7 TQ r2.cs)
                        have HP1 := Lib.hid ((HK1.out.thru0 HB7.out).thru0 hb8)
                        clear hb7 hb8 HD HBX HOX HO7 hl5 hl1 hv5 hv1
                        by_cases he : er = 0
                        · subst he
                          cases hq : eqQ r2 r with
                          | true =>
                            have HKV : Hid (refOk r = true) := Lib.hid (by rw [HKT.out, hq]; rfl)
                            go_upto_region 42 with fail
                            have hq5 := fun q => run_ldQ (HP5.out.drewN q)
                            have hq1 := fun q => run_ldQ (HP1.out.drewN q)
                            have hq5d := run_ldQ HP5.out.drew
                            have hq1d := run_ldQ HP1.out.drew
                            go_quiet (fail)
                            rename Nat => nq9
                            go_wp2_with fail
                            go_ret2
                            exact ⟨below_drawn HB8.out nq9, _, (by rw [HKV.out]; rfl), fun _ => by rw [HWX.out]; exact HO8.out.below (below_drawn (Below.refl _ _) nq9)⟩
                          | false =>
                            have HKV : Hid (refOk r = false) := Lib.hid (by rw [HKT.out, hq, Bool.and_false])
                            go_upto_region 42 with fail
                            have hq5 := fun q => run_ldQ (HP5.out.drewN q)
                            have hq1 := fun q => run_ldQ (HP1.out.drewN q)
                            have hq5d := run_ldQ HP5.out.drew
                            have hq1d := run_ldQ HP1.out.drew
                            go_quiet (fail)
                            rename Nat => nq9
                            go_wp2_with fail
                            go_ret2
                            exact ⟨below_drawn HB8.out nq9, _, (by rw [HKV.out]; rfl), fun h => by rw [HKV.out] at h; cases h⟩
                        · have hne : (er == 0) = false := by simpa using he
                          have hnd : decide (er = 0) = false := decide_eq_false he
                          have HKV : Hid (refOk r = false) := Lib.hid (by rw [HKT.out, decide_eq_false he, Bool.false_and])
                          clear he
                          go_upto_region 42 with fail
                          go_quiet (fail)
                          rename Nat => nq9
                          go_wp2_with fail
                          go_ret2
                          exact ⟨below_drawn HB8.out nq9, _, (by rw [HKV.out]; rfl), fun h => by rw [HKV.out] at h; cases h⟩
          · have HFM : Hid (o3 = (F1 && o3)) := Lib.hid (by rw [← HFL.out]; rfl)
            have hld := run_ldQ (HK1.out.thru0 HF3b.out.bel)
            have k0 := (HK1.out.thru0 HF3b.out.bel).cell 0; simp only [e0] at k0
            go_wp2_with fail
            refine (rvals_any r w3).mono ?_
            rintro e w4 ⟨gv, rfl, hov, hgv, hb4⟩
            have HB4 := Lib.hid hb4
            have HOV := Lib.hid hov
            have HGV := Lib.hid hgv
            clear hld k0 hov hgv hb4
            have k0 := (HK1.out.thru0 (below_trans HF3b.out.bel HB4.out)).cell 0; simp only [e0] at k0
            go_wp2_with fail
            refine (fld_any 7 (by omega) (by omega) w4).mono ?_
            rintro e w5 ⟨gf, rfl, hof, hgf, hb5⟩
            have HB5 := Lib.hid (below_trans HB4.out hb5)
            have HOV5 := Lib.hid (HOV.out.below hb5)
            have HOF := Lib.hid hof
            have HGF := Lib.hid hgf
            have HS4 := Lib.hid HB4.out.size
            have HF5 := Lib.hid (HF3b.out.below HB5.out)
            have HVB := Lib.hid (fun i (hi : v3.ownBlock = some i) => HF3b.out.own.lt hi)
            clear k0 hof hgf hb5 HOV
            have HXL := Lib.hid (vals_len r 7 hk (by omega) (by omega))
            have HWL := Lib.hid (widL_le 7)
            generalize valsN r = XS at *
            generalize widL 7 = KS at *
            obtain ⟨nv, hnv⟩ : ∃ n, n = XS.length := ⟨_, rfl⟩
            obtain ⟨nf, hnf⟩ : ∃ n, n = KS.length := ⟨_, rfl⟩
            rw [← hnv] at HOV5 ⊢
            rw [← hnf] at HOF ⊢
            have HXN3 : Hid (nv = XS.length ∧ XS.length ≤ KS.length ∧ nv ≤ 10) := Lib.hid (by have h1 := HXL.out; have h2 := HWL.out.1; omega)
            have HKS3 : Hid (∀ x ∈ KS, 1 ≤ x ∧ x ≤ 8) := Lib.hid HWL.out.2
            have HNV3 : Hid (∀ (i : Nat), (Value.slice (some ⟨gv, 0, none⟩) nv nv).ownBlock = some i → v3.ownBlock = some i → False) := Lib.hid (fun i h1 h2 => by simp [Value.ownBlock] at h1; have h3 := HVB.out i h2; have h4 := HGV.out; omega)
            have HNF3 : Hid (∀ (i : Nat), (Value.slice (some ⟨gf, 0, none⟩) nf nf).ownBlock = some i → v3.ownBlock = some i → False) := Lib.hid (fun i h1 h2 => by simp [Value.ownBlock] at h1; have h3 := HVB.out i h2; have h4 := HGF.out; have h5 := HS4.out; omega)
            have HZ3 : Hid ((XS.zip KS).take nv = XS.zip KS) := Lib.hid (by rw [hnv]; exact zip_all XS KS HXN3.out.2.1)
            have HVF : Hid (nv ≤ nf) := Lib.hid (by have := HXN3.out; omega)
            clear hnv hnf
            go_wp2_with fail
            go_loopw [4, 7, 8, 15] (fun bq okq fq iq wr => ∃ (j : Nat) (f : Bool), j ≤ nv ∧ iq = .int .i64 j ∧ fq = .bool f ∧ (∃ o : Bool, okq = .bool o) ∧ Hid (f = (o3 && datK ((XS.zip KS).take j))) ∧ Hid (Ap W1 w5 v3 (Q2 ++ datB ((XS.zip KS).take j)) bq wr)) (fun _ _ _ i _ => nv - (intOf i).toNat)
            case atStart => exact ⟨0, _, Nat.zero_le _, rfl, rfl, ⟨_, rfl⟩, by simp [datK, Hid], by simpa [datB, Hid] using Ap.refl HF5.out⟩
            case round =>
              rename World => wr
              obtain ⟨j, f, hj, rfl, rfl, ⟨o, rfl⟩, HFL, HA⟩ := hrel
              by_cases hlt : j < nv
              · have hnf9 : j < nf := by have := HVF.out; omega
                have hnv9 : nv ≤ 10 := HXN3.out.2.2
                have hj1 : j < (XS).length := by have := HXN3.out; omega
                have hj2 : j < (KS).length := by have := HXN3.out; omega
                have HZS := Lib.hid (zip_step (XS) (KS) j hj1 hj2)
                have HX0 := Lib.hid (List.getElem?_eq_getElem hj1)
                have HY0 := Lib.hid (List.getElem?_eq_getElem hj2)
                have HK8 := Lib.hid (HKS3.out _ (List.getElem_mem hj2))
                have HLQ : Hid ((Q2 ++ datB ((XS.zip KS).take j)).length ≤ 1000) := Lib.hid (by have h1 := zip_le (XS) (KS) (fun x hx => (HKS3.out x hx).2) j; have h2 := HQL2.out; have h3 := HXN3.out; rw [List.length_append]; omega)
                have HB1 := Lib.hid (datB_snoc ((XS.zip KS).take j) ((XS)[j], (KS)[j]))
                have HK1 := Lib.hid (datK_snoc ((XS.zip KS).take j) ((XS)[j], (KS)[j]))
                rw [← HZS.out] at HB1 HK1
                have HBQ : Hid (Q2 ++ datB ((XS.zip KS).take (j + 1)) = (Q2 ++ datB ((XS.zip KS).take j)) ++ wputB (XS)[j] (KS)[j]) := Lib.hid (by rw [HB1.out, List.append_assoc])
                have HKQ : Hid ((o3 && datK ((XS.zip KS).take (j + 1))) = (f && wputK (XS)[j] (KS)[j])) := Lib.hid (by rw [HK1.out, HFL.out, Bool.and_assoc])
                clear HB1 HK1 HZS HFL
                generalize (XS)[j] = x at *
                generalize (KS)[j] = k at *
                clear hj1 hj2
                generalize (Q2 ++ datB ((XS.zip KS).take j)) = Q at *
                have HPU := Lib.hid (fun (X : World) (v : Value) (hX : FBy W1 v Q X) => wput_any W1 X v Q x k HK8.out.1 HK8.out.2 hX (by have := HLQ.out; omega))
                generalize wputK x k = o2 at *
                have HS := Lib.hid (fun (w' : World) (Q' : Bs) (v' : Value) (h : Ap W1 w5 v3 Q' v' w') => And.intro (show w'.cell? ⟨gv, j, none⟩ = some (.int .i64 x) from (HOV5.out.keep fun i hi e => h.keep i hi (fun e2 => HNV3.out i e e2)).vcell HX0.out) (show w'.cell? ⟨gf, j, none⟩ = some (.int .i64 (k : Int)) from (HOF.out.keep fun i hi e => h.keep i hi (fun e2 => HNF3.out i e e2)).wcell HY0.out))
                obtain ⟨kx, kk⟩ := HS.out _ _ _ HA.out
                go_upto_region 25 with fail
                go_region_held3 (fun w' => w'.cell? ⟨gv, j, none⟩ = some (.int .i64 x) ∧ w'.cell? ⟨gf, j, none⟩ = some (.int .i64 (k : Int))) (first | (exact HS.out _ _ _ (by first | (with_reducible exact HA9.out) | (with_reducible exact HA.out) | exact HA.out.below (by first | exact Below.refl _ _ | (go_grown; done) | exact below_drawn (Below.refl _ _) _))) | go_keep) (first | (go_at_call 27; refine (HPU.out _ _ (HA.out.f.below (by first | exact Below.refl _ _ | (go_grown; done) | exact below_drawn (Below.refl _ _) _))).mono ?_; rintro e w9 ⟨v9, rfl, ha9⟩; have haX := HA.out.step (Ap.pre (w := wr) (by first | exact Below.refl _ _ | (go_grown; done) | exact below_drawn (Below.refl _ _) _) ha9); have HA9 := Lib.hid haX))
                all_goals
                  cases f
                  · go_wp2_with fail
                    go_roundw
                    case rel => exact ⟨j + 1, _, by omega, by go_num, rfl, ⟨_, rfl⟩, Lib.hid (by rw [HKQ.out]; rfl), Lib.hid (by rw [HBQ.out]; exact HA9.out)⟩
                    case measure => simp [intOf]; omega
                  · go_wp2_with fail
                    go_roundw
                    case rel => exact ⟨j + 1, _, by omega, by go_num, rfl, ⟨_, rfl⟩, Lib.hid (by rw [HKQ.out]; rfl), Lib.hid (by rw [HBQ.out]; exact HA9.out)⟩
                    case measure => simp [intOf]; omega
              · obtain rfl : j = nv := by omega
                rw [HZ3.out] at HFL HA
                have HFL3 : Hid (f = refK r) := Lib.hid (by rw [HKE.out, HFL.out, ← HF1.out, ← HO3.out, ← HFM.out])
                have HXA := Lib.hid HA.out.f
                obtain ⟨QN, hQN⟩ : ∃ QN, QN = datB (XS.zip KS) := ⟨_, rfl⟩
                have HQN := Lib.hid hQN
                have HQN8 : Hid (QN.length ≤ 90) := Lib.hid (by rw [hQN]; have h1 := datB_le (XS.zip KS) (fun p hp => (HKS3.out p.2 (List.of_mem_zip hp).2).2); have h2 := HXN3.out; rw [List.length_zip] at h1; omega)
                rw [← hQN] at HXA
                clear hQN HA HFL
                have k19 := (HK1.out.thru0 HXA.out.bel).cell 19; simp only [e19] at k19
                have k0 := (HK1.out.thru0 HXA.out.bel).cell 0; simp only [e0] at k0
                have HP2 := Lib.hid (fun w => refput_any 8 r.area (by decide) (by decide) HR.out.area w)
                unfold RPost at HP2
                go_wp2_with fail
                refine (HP2.out _).mono ?_
                rintro e w6 ⟨l2, rfl, hown2, hb2⟩
                have HX6 := Lib.hid (HXA.out.below hb2)
                obtain ⟨g2, cap2, cur2, rfl, hgb2, hbl2, hce2⟩ := own_cells hown2 (by decide)
                have HBK2 := Lib.hid hbl2
                have HCE2 := Lib.hid hce2
                have HVG2 : Hid (u4.ownBlock ≠ some g2) := Lib.hid (fun e => by have := HXA.out.own.lt e; omega)
                obtain ⟨Q3, hQ3⟩ : ∃ x, x = Q2 ++ QN := ⟨_, rfl⟩
                have HQ3 := Lib.hid hQ3
                have HQ38 : Hid (Q3.length ≤ 160) := Lib.hid (by rw [hQ3, List.length_append]; have h1 := HQL2.out; have h2 := HQN8.out; omega)
                rw [← hQ3] at HX6
                clear hown2 hb2 hgb2 hbl2 hce2 k19 k0 HXA HP2 hQ3
                obtain ⟨PT, hPT⟩ : ∃ PT, PT = be 8 r.area := ⟨_, rfl⟩
                have HPT := Lib.hid hPT
                have HPTL : Hid (8 = PT.length) := Lib.hid (by rw [hPT, be_length])
                rw [← hPT] at HCE2
                clear hPT
                have k0 := (HK1.out.thru0 HX6.out.bel).cell 0; simp only [e0] at k0
                go_wp2_with fail
                clear k0
                go_loopw [4, 17] (fun bq iq wr => ∃ j : Nat, j ≤ 8 ∧ iq = .int .i64 j ∧ Hid (Ap W1 w6 u4 (Q3 ++ (PT).take j) bq wr)) (fun _ i _ => 8 - (intOf i).toNat)
                case atStart => exact ⟨0, Nat.zero_le _, rfl, by simpa [Hid] using Ap.refl HX6.out⟩
                case round =>
                  rename World => wr
                  obtain ⟨j, hj, rfl, HA⟩ := hrel
                  obtain ⟨A2, c2, hv, hl2, hm2⟩ := HA.out.f.own.slice
                  by_cases hlt : j < 8
                  · have hjl : j < (PT).length := by have := HPTL.out; omega
                    have HTK : Hid (Q3 ++ (PT).take (j + 1) = (Q3 ++ (PT).take j) ++ [(PT)[j]]) := Lib.hid (by rw [List.take_succ_eq_append_getElem hjl, List.append_assoc])
                    have kc := (HA.out.blk HBK2.out HVG2.out).cell j
                    rw [HCE2.out j PT[j] (List.getElem?_eq_getElem hjl)] at kc
                    have k0 := (HK1.out.thru0 HA.out.f.bel).cell 0; simp only [e0] at k0
                    generalize (PT)[j] = x at *
                    have HLQ : Hid ((Q3 ++ (PT).take j).length ≤ 2000) := Lib.hid (by have h1 := HQ38.out; have h2 := HPTL.out; rw [List.length_append, List.length_take]; omega)
                    generalize Q3 ++ (PT).take j = Q at *
                    generalize Q.length = lj at hv hl2
                    subst hv
                    clear hl2 hm2 hjl
                    have HOW := Lib.hid (HA.out.f.own.below ((Below.refl _ _).alloc (Nat.le_refl _) (.cells #[.int .u8 (x.toNat : Int)] 5)))
                    have HRM := Lib.hid (one_new2 wr x 5)
                    go_wp2_with ((at_builtin; go_loud (refine wpList_eappr2 (e2 := 5) elB_ok rfl _ _ 22 22 rfl (by kernel_rfl) (by kernel_rfl) _ Q [x] (some ⟨wr.heap.size, 0, none⟩) 1 rfl rfl HOW.out HRM.out (by have := HLQ.out; simp only [maxLen, List.length_cons, List.length_nil]; omega) (by have := HLQ.out; have h1 : elB.by_ = 1 := rfl; rw [h1, List.length_cons, List.length_nil]; omega) ?_; intro v' w9 hA; have HA9 := Lib.hid (HA.out.app ((Below.refl _ _).alloc (Nat.le_refl _) _) hA); clear hA)))
                    go_roundw
                    case rel => exact ⟨j + 1, by omega, by go_num, Lib.hid (by rw [HTK.out]; exact HA9.out)⟩
                    case measure => simp [intOf]; omega
                  · obtain rfl : j = 8 := by omega
                    have HT2 : Hid ((PT).take 8 = PT) := Lib.hid (List.take_of_length_le (by have := HPTL.out; omega))
                    rw [HT2.out] at HA hv
                    clear HT2
                    generalize (Q3 ++ PT).length = lj at hv hl2
                    subst hv
                    clear hl2 hm2
                    have HX := Lib.hid HA.out.f
                    clear HA
                    have k0 := (HK1.out.thru0 HX.out.bel).cell 0; simp only [e0] at k0
                    have k9 := (HK1.out.thru0 HX.out.bel).cell 9; simp only [e9] at k9
                    go_wp2_with fail
                    refine wp_loop_rounds 1 ?_
                    rw [rounds_succ]
                    by_cases htp : (0 : Int) < ((bs r.text).size : Int)
                    all_goals
                      have HW6 : Hid ((Q3 ++ PT) = refW r) := Lib.hid (by rw [HWE.out, ← HQE2.out, HQ3.out, HQN.out, HPT.out]; simp [tailW])
                      obtain ⟨A6, c6, hv6, hl6, hm6⟩ := HX.out.own.slice
                      obtain ⟨QQ, hqq⟩ : ∃ x, x = (Q3 ++ PT) := ⟨_, rfl⟩
                      rw [← hqq] at HW6 HX hv6 hl6
                      clear hqq
                      obtain ⟨nq, hnq⟩ : ∃ n, n = QQ.length := ⟨_, rfl⟩
                      rw [← hnq] at hv6 hl6
                      clear hnq
                      first | subst hv6 | (injection hv6 with ea eb ec; subst ea; subst eb; subst ec)
                      cases f
                      · have HKF : Hid (refOk r = false) := Lib.hid (refOk_no HFL3.out.symm)
                        have HBE := Lib.hid (below_trans HB1.out HX.out.bel)
                        clear hl6 hm6
                        go_wp2_with fail
                        go_ret2
                        exact ⟨HBE.out, _, (by rw [HKF.out]; rfl), fun h => by rw [HKF.out] at h; cases h⟩
                      · have HKT := Lib.hid (HOK.out HFL3.out.symm)
                        rw [← HW6.out] at HKT
                        have HOX := Lib.hid HX.out.own
                        have HD := Lib.hid (rdecode_any _ _ _ _ QQ hl6 hm6 (EOwn.rb HX.out.own))
                        have HBX := Lib.hid HX.out.bel
                        have HWX := Lib.hid HW6.out.symm
                        unfold DecP at HD
                        generalize decR QQ = x at *
                        obtain ⟨er, r2⟩ := x
                        simp only at HD HKT
                        clear hl6 hm6 HX
                        go_wp2_with fail
                        refine HD.out.mono ?_
                        rintro e w7 ⟨rfl, hb7⟩
                        have HB7 := Lib.hid (below_trans HBX.out hb7)
                        have HO7 := Lib.hid (HOX.out.below hb7)
                        have hst : (stQ (.pointer (some ⟨w7.heap.size, 0, none⟩)) (.agg r2.cs)).run Try.prog (w7.alloc (.cells #[.int .i64 0, .int .i64 0, .int .i64 0, .int .u64 0, .int .i64 0, .int .i64 0, .int .i64 0, .int .i64 0, .int .i64 0, .string ⟨#[]⟩, .int .i64 0, .int .i64 0, .int .i64 0, .int .i64 0, .int .i64 0, .int .i64 0, .int .i64 0, .int .u64 0, .int .i64 0, .int .u64 0, .int .i64 0, .int .i64 0, .int .i64 0, .int .i64 0] TQ)) = .ok () (w7.alloc (.cells r2.cs TQ)) := run_stQ (r := r2) (r0 := Rq.z)
                        have hb8 : Below w7.heap.size w7 (w7.alloc (.cells r2.cs TQ)) := (Below.refl _ _).alloc (Nat.le_refl _) _
                        have hl5 := run_ldQ (Blk.new w7 TQ r2.cs)
                        have hl1 := run_ldQ ((HK1.out.thru0 HB7.out).thru0 hb8)
                        have hv5 := run_ldV (Blk.new w7 TQ r2.cs)
                        have hv1 := run_ldV ((HK1.out.thru0 HB7.out).thru0 hb8)
                        have HB8 := Lib.hid (below_trans HB1.out (below_trans HB7.out hb8))
                        have HO8 := Lib.hid (HO7.out.below hb8)
                        have HP5 := Lib.hid (Blk.new w7 TQ r2.cs)
                        have HP1 := Lib.hid ((HK1.out.thru0 HB7.out).thru0 hb8)
                        clear hb7 hb8 HD HBX HOX HO7 hl5 hl1 hv5 hv1
                        by_cases he : er = 0
                        · subst he
                          cases hq : eqQ r2 r with
                          | true =>
                            have HKV : Hid (refOk r = true) := Lib.hid (by rw [HKT.out, hq]; rfl)
                            go_upto_region 42 with fail
                            have hq5 := fun q => run_ldQ (HP5.out.drewN q)
                            have hq1 := fun q => run_ldQ (HP1.out.drewN q)
                            have hq5d := run_ldQ HP5.out.drew
                            have hq1d := run_ldQ HP1.out.drew
                            go_quiet (fail)
                            rename Nat => nq9
                            go_wp2_with fail
                            go_ret2
                            exact ⟨below_drawn HB8.out nq9, _, (by rw [HKV.out]; rfl), fun _ => by rw [HWX.out]; exact HO8.out.below (below_drawn (Below.refl _ _) nq9)⟩
                          | false =>
                            have HKV : Hid (refOk r = false) := Lib.hid (by rw [HKT.out, hq, Bool.and_false])
                            go_upto_region 42 with fail
                            have hq5 := fun q => run_ldQ (HP5.out.drewN q)
                            have hq1 := fun q => run_ldQ (HP1.out.drewN q)
                            have hq5d := run_ldQ HP5.out.drew
                            have hq1d := run_ldQ HP1.out.drew
                            go_quiet (fail)
                            rename Nat => nq9
                            go_wp2_with fail
                            go_ret2
                            exact ⟨below_drawn HB8.out nq9, _, (by rw [HKV.out]; rfl), fun h => by rw [HKV.out] at h; cases h⟩
                        · have hne : (er == 0) = false := by simpa using he
                          have hnd : decide (er = 0) = false := decide_eq_false he
                          have HKV : Hid (refOk r = false) := Lib.hid (by rw [HKT.out, decide_eq_false he, Bool.false_and])
                          clear he
                          go_upto_region 42 with fail
                          go_quiet (fail)
                          rename Nat => nq9
                          go_wp2_with fail
                          go_ret2
                          exact ⟨below_drawn HB8.out nq9, _, (by rw [HKV.out]; rfl), fun h => by rw [HKV.out] at h; cases h⟩
end
end
end Go.Proofs.Ythlmldbgohnpnaa
