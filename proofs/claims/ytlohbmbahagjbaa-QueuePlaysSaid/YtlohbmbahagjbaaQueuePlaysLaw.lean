/- QueuePlays: (P4.1) whatever is done with a queue, step by step it tells what the document says. Conditions: none. -/
import Derived.Test.YtlohbmbahagjbaaQPlays
import Derived.Test.YtlohbmbahagjbaaFrame
import Derived.Lib.SmallJoins
namespace Go.Proofs.Ytlohbmbahagjbaa.queuePlays
set_option linter.unusedVariables false
set_option linter.unusedSimpArgs false
open Go.ChangeShapes Go.WideShapes Go.ChangeAt Go.RowKit
open Go.ChangeMaps (open_string shut_string)
attribute [local go_sem] eq_entry
theorem run_min2 {P : Program} (w : World) (ts : Array TypeId) (t : TypeId) (k k' : IntKind) (x y : Int) : (Builtin.min_ ts t #[.int k x, .int k' y]).run P w = .ok (.int k (min x y)) w := by
  rw [run_min_int2]
  have : (if y < x then y else x) = min x y := by omega
  rw [this]
theorem run_max2 {P : Program} (w : World) (ts : Array TypeId) (t : TypeId) (k k' : IntKind) (x y : Int) : (Builtin.max_ ts t #[.int k x, .int k' y]).run P w = .ok (.int k (max x y)) w := by
  rw [run_max_int2]
  have : (if x < y then y else x) = max x y := by omega
  rw [this]
attribute [local go_sem high] run_min2 run_max2
/-- An operation: its kind, an entry, a number. -/
def OpOk (w : World) (cs : List Value) : Prop := ∃ (kd k t i N : Int), cs = [.int .i64 kd, .int .u64 k, .int .u64 t, .int .i64 i, .int .i64 N] ∧ -9223372036854775808 ≤ N ∧ N ≤ 9223372036854775807
theorem opOk_of {H : Type} {enc : TypeId × Value → H} {w : World} {sp : Nat → Bool} {hd : Bool} : ∀ fuel cs (y : DataW H × List MemPlace), DataW.trod enc Try.prog w 0 sp hd fuel 34 cs = some y → (∀ m ∈ y.1.weights Try.prog 34, m ≤ reachBytes) → OpOk w cs := by
  intro fuel cs y h hsz
  obtain ⟨_, _, _, _, hl, _, _⟩ := DataW.trod_struct Try.underlying34 h
  have hC : Try.prog.cellsOf 34 = 5 := by kernel_rfl
  rw [hC] at hl
  obtain ⟨a0, h0, _⟩ := leaf_int (o := 0) (u := 3) (by kernel_rfl) Try.underlying3 h
  obtain ⟨a1, h1, _⟩ := leaf_int (o := 1) (u := 27) (by kernel_rfl) Try.underlying27 h
  obtain ⟨a2, h2, _⟩ := leaf_int (o := 2) (u := 27) (by kernel_rfl) Try.underlying27 h
  obtain ⟨a3, h3, _⟩ := leaf_int (o := 3) (u := 3) (by kernel_rfl) Try.underlying3 h
  obtain ⟨a4, h4, w4⟩ := leaf_int (o := 4) (u := 3) (by kernel_rfl) Try.underlying3 h
  have hb := bounds_i64 w4
  match cs, hl with
  | [b0, b1, b2, b3, b4], _ =>
    simp at h0 h1 h2 h3 h4
    subst h0; subst h1; subst h2; subst h3; subst h4
    exact ⟨a0, a1, a2, a3, a4, rfl, hb.1, hb.2⟩
set_option maxRecDepth 100000 in
set_option maxHeartbeats 16000000 in
theorem walk (a : Option Addr) (len cap0 : Nat) (w : World) (h : IsSl w 5 (OpOk w) a len cap0) : Calls Try.prog 3 #[.slice a len cap0] w fun e w' => e = .returned (.bool true) ∧ Below w.heap.size w w' := by
  have hlc := h.le
  obtain ⟨hlc1, hlc2⟩ := hlc
  unfold maxLen at hlc2
  by_cases hbig : 300 < len
  · have hbi : (300 : Int) < (len : Int) := by omega
    clear h
    go_enter Try.func3, Try.ntmps3
    go_wp2_with fail
    refine (known_any _).mono ?_
    rintro e w9 ⟨rfl, hb9⟩
    go_wp2
    go_ret
    exact ⟨rfl, hb9⟩
  · have hbi : (len : Int) ≤ 300 := by omega
    have HS := Lib.hid h; clear h
    go_enter Try.func3, Try.ntmps3
    go_wp2_with fail
    refine (qnew_any w).mono ?_
    rintro e w1 ⟨rfl, hw1⟩
    have HST := Lib.hid (show LRel w w.heap.size [] none 0 0 w1 from by
      rw [hw1]
      exact ⟨.slice none 0 0, [], ⟨Blk.new _ _ _, QOwn.nil_ _, fun k h0 hk => by simp at hk⟩, List.Perm.refl _, List.Pairwise.nil, Hv.nil_ _, by go_grown, Nat.le_refl _, fun i hi => by simp [Value.ownBlock] at hi, fun i hi => by simp at hi⟩)
    clear hw1
    generalize hqq : w.heap.size = q at HST ⊢
    have HQQ := Lib.hid hqq; clear hqq
    go_wp2
    go_loopw [4, 5] (fun hv i wr => ∃ (k n c : Nat) (A : Option Addr) (S : List En), k ≤ len ∧ i = .int .i64 k ∧ hv = .slice A n c ∧ n ≤ k ∧ Hid (LRel w q S A n c wr)) (fun _ i _ => len - (intOf i).toNat)
    case atStart => exact ⟨0, 0, 0, none, [], Nat.zero_le _, rfl, rfl, Nat.le_refl _, HST⟩
    case round =>
      clear HST
      obtain ⟨k, n, c, A, S, hk, rfl, rfl, hnk, HR⟩ := hrel
      have hv := HR.out.hv
      have hSn := hv.1
      have hnc := hv.2.1
      have hcm := hv.2.2.1
      unfold maxLen at hcm
      have HSN := Lib.hid hSn
      have hS9 : S.length ≤ 1000000 := by omega
      by_cases hlt : k < len
      · have hki : (k : Int) < (len : Int) := by omega
        obtain ⟨xb, xo, cs, rfl, hcl, hcell, kd, e1, e2, e3, N, rfl, hN1, hN2⟩ := HS.out.at2 k hlt (by omega)
        have m0 : w.cell? ⟨xb, xo + k * 5, none⟩ = some (.int .i64 kd) := hcell 0 _ rfl
        have m1 : w.cell? ⟨xb, xo + k * 5 + 1, none⟩ = some (.int .u64 e1) := hcell 1 _ rfl
        have m2 : w.cell? ⟨xb, xo + k * 5 + 2, none⟩ = some (.int .u64 e2) := hcell 2 _ rfl
        have m3 : w.cell? ⟨xb, xo + k * 5 + 3, none⟩ = some (.int .i64 e3) := hcell 3 _ rfl
        have m4 : w.cell? ⟨xb, xo + k * 5 + 4, none⟩ = some (.int .i64 N) := hcell 4 _ rfl
        clear hcl hcell hv hSn
        have HTOP := Lib.hid (HR.out.top hS9)
        go_wp2_with fail
        refine HTOP.out.mono ?_
        rintro e w2 ⟨he, hb2⟩
        unfold enV at he
        have HR2 := Lib.hid (HR.out.below hb2)
        clear hb2 HTOP HR
        generalize hx : at_ S 0 = x at *
        have HX := Lib.hid hx; clear hx
        generalize hbb : nz S = b at *
        have HBB := Lib.hid hbb; clear hbb
        subst he
        go_upto_region 9 with fail
        go_cut [48] (fun s48 wx => s48 = .bool false ∧ Hid (LRel w q S A n c wx))
        case first =>
          have HA := Lib.hid (HR2.out.below ((Below.refl w2.heap.size w2).alloc (Nat.le_refl _) (.cells #[.int .u64 x.1, .int .u64 x.2.1, .int .i64 x.2.2] 29)))
          have hE := Blk.new w2 29 #[.int .u64 x.1, .int .u64 x.2.1, .int .i64 x.2.2]
          generalize (w2.alloc (.cells #[.int .u64 x.1, .int .u64 x.2.1, .int .i64 x.2.2] 29)) = W at *
          have k0 := hE.cell 0
          have k1 := hE.cell 1
          have k2 := hE.cell 2
          simp only [List.getElem?_toArray, List.getElem?_cons_zero, List.getElem?_cons_succ] at k0 k1 k2
          clear hE HR2
          have HLEN := Lib.hid (fun m => (HA.out.below (below_drawn (Below.refl W.heap.size W) m)).len)
          have HLEN0 := Lib.hid HA.out.len
          by_cases h0 : 0 < n
          · have hnz : b = true := by rw [← HBB.out]; simp [nz, HSN.out, h0]
            subst hnz
            have h0i : (0 : Int) < (n : Int) := by omega
            obtain ⟨g, off, rfl, a0, a1, a2⟩ := HA.out.hv.cell h0
            rw [HX.out] at a0 a1 a2
            simp only [Nat.zero_mul, Nat.add_zero] at a0 a1 a2
            go_quiet ((go_at_call 11; first | exact quiet1 (HLEN.out _) | exact quiet0 HLEN0.out))
            go_wp2
            go_meet
            exact ⟨rfl, Lib.hid (HA.out.below (below_drawn (Below.refl W.heap.size W) _))⟩
          · have hn0 : n = 0 := by omega
            subst hn0
            have hnz : b = false := by rw [← HBB.out]; exact decide_eq_false (by rw [HSN.out]; exact Nat.lt_irrefl _)
            subst hnz
            go_quiet ((go_at_call 11; first | exact quiet1 (HLEN.out _) | exact quiet0 HLEN0.out))
            go_wp2
            go_meet
            exact ⟨rfl, Lib.hid (HA.out.below (below_drawn (Below.refl W.heap.size W) _))⟩
        case rest =>
          obtain ⟨rfl, HRC⟩ := hcut
          have m0c := cell_later HRC.out.under m0
          have m1c := cell_later HRC.out.under m1
          have m2c := cell_later HRC.out.under m2
          have m3c := cell_later HRC.out.under m3
          have m4c := cell_later HRC.out.under m4
          clear HR2 HBB HX
          by_cases hk0 : kd = 0
          · subst hk0
            have HPU := HRC.out.push hS9 (e1, e2, e3)
            dsimp only at HPU
            have HPUE := Lib.hid HPU; clear HPU
            go_wp2_with fail
            refine HPUE.out.mono ?_
            rintro e w3 ⟨rfl, hv3, hB3, v3, L3, g1, g2, g3, g4, g5⟩
            have m1d := cell_later hB3 m1
            have m2d := cell_later hB3 m2
            have m3d := cell_later hB3 m3
            have HRP := rput_any A n c S (e1, e2, e3) w3 hv3 (by omega)
            dsimp only at HRP
            have HRPE := Lib.hid HRP
            have HG1 := Lib.hid g1; have HG2 := Lib.hid g2; have HG3 := Lib.hid g3; have HG5 := Lib.hid g5; have HB3 := Lib.hid hB3
            clear HRP hv3 g1 g2 g3 g5 hB3 m1c m2c m3c m4c m0c HPUE
            go_wp2_with fail
            refine HRPE.out.mono ?_
            rintro e w4 ⟨A4, c4, rfl, ho4, hb4, ha4⟩
            have HNEW := Lib.hid (lrel_new HG1.out HG2.out HG3.out hb4 HB3.out g4 HG5.out ho4 ha4)
            have hil : (ins (e1, e2, e3) S).length ≤ k + 1 := by rw [ins_length, HSN.out]; omega
            clear ho4 hb4 ha4
            generalize ins (e1, e2, e3) S = S2 at *
            go_wp2
            go_roundw
            case rel => exact ⟨k + 1, S2.length, c4, A4, S2, by omega, by go_num, rfl, hil, HNEW⟩
            case measure => simp [intOf]; omega
          · by_cases hk1 : kd = 1
            · subst hk1
              have HPO := Lib.hid (HRC.out.pop hS9)
              go_wp2_with fail
              refine HPO.out.mono ?_
              rintro e w3 ⟨he, hp3, hz3⟩
              unfold enV at he
              generalize hy : at_ S 0 = y at *
              have HY := Lib.hid hy; clear hy
              generalize hbb : nz S = b1 at *
              have HBB := Lib.hid hbb; clear hbb
              subst he
              have HP3 := Lib.hid hp3
              clear hp3 hz3 HPO m0c m1c m2c m3c m4c HRC
              go_upto_region 18 with fail
              go_cut [101] (fun s wx => s = .bool false ∧ Hid (LPop w q S A n c wx))
              case first =>
                have HA := Lib.hid (HP3.out.below ((Below.refl w3.heap.size w3).alloc (Nat.le_refl _) (.cells #[.int .u64 y.1, .int .u64 y.2.1, .int .i64 y.2.2] 29)))
                have hE := Blk.new w3 29 #[.int .u64 y.1, .int .u64 y.2.1, .int .i64 y.2.2]
                generalize (w3.alloc (.cells #[.int .u64 y.1, .int .u64 y.2.1, .int .i64 y.2.2] 29)) = W at *
                have k0 := hE.cell 0
                have k1 := hE.cell 1
                have k2 := hE.cell 2
                simp only [List.getElem?_toArray, List.getElem?_cons_zero, List.getElem?_cons_succ] at k0 k1 k2
                clear hE HP3
                by_cases h0 : 0 < n
                · have hnz : b1 = true := by rw [← HBB.out]; simp [nz, HSN.out, h0]
                  subst hnz
                  have h0i : (0 : Int) < (n : Int) := by omega
                  obtain ⟨g, off, rfl, a0, a1, a2⟩ := HA.out.hv.cell h0
                  rw [HY.out] at a0 a1 a2
                  simp only [Nat.zero_mul, Nat.add_zero] at a0 a1 a2
                  go_quiet (fail)
                  go_wp2
                  go_meet
                  exact ⟨rfl, Lib.hid (HA.out.below (below_drawn (Below.refl W.heap.size W) _))⟩
                · have hn0 : n = 0 := by omega
                  subst hn0
                  have hnz : b1 = false := by rw [← HBB.out]; exact decide_eq_false (by rw [HSN.out]; exact Nat.lt_irrefl _)
                  subst hnz
                  have hy0 : y = (0, 0, 0) := by
                    rw [← HY.out, List.eq_nil_of_length_eq_zero HSN.out]; rfl
                  subst hy0
                  dsimp only at k0 k1 k2
                  go_quiet (fail)
                  go_wp2
                  go_meet
                  exact ⟨rfl, Lib.hid (HA.out.below (below_drawn (Below.refl W.heap.size W) _))⟩
              case rest =>
                obtain ⟨rfl, HPC⟩ := hcut
                clear HP3
                by_cases h0 : 0 < n
                · have hnz : b1 = true := by rw [← HBB.out]; simp [nz, HSN.out, h0]
                  subst hnz
                  have h0i : (0 : Int) < (n : Int) := by omega
                  have h1i : (1 : Int) ≤ (n : Int) := by omega
                  have hci : (n : Int) ≤ (c : Int) := by omega
                  obtain ⟨g, off, rfl, _, _, _⟩ := HPC.out.hv.cell h0
                  have HCUT := Lib.hid (HPC.out.cut h0)
                  clear HBB HY HPC
                  by_cases hc1 : c = 1
                  · have hn1 : n = 1 := by omega
                    subst hc1; subst hn1
                    have HC2 := Lib.hid (show LRel w q (S.drop 1) (some ⟨g, off, none⟩) 0 0 wc from by have := HCUT.out; simpa using this)
                    clear HCUT
                    go_wp2
                    go_roundw
                    case rel => exact ⟨k + 1, 0, 0, _, S.drop 1, by omega, by go_num, rfl, by omega, HC2⟩
                    case measure => simp [intOf]; omega
                  · have HC2 := Lib.hid (show LRel w q (S.drop 1) (some ⟨g, off + 3, none⟩) (n - 1) (c - 1) wc from by have := HCUT.out; rw [if_neg hc1] at this; simpa [addr_add] using this)
                    have hc1i : ¬ (c : Int) = 1 := by omega
                    clear HCUT
                    go_wp2
                    go_roundw
                    case rel => exact ⟨k + 1, n - 1, c - 1, _, S.drop 1, by omega, by go_num, rfl, by omega, HC2⟩
                    case measure => simp [intOf]; omega
                · have hn0 : n = 0 := by omega
                  subst hn0
                  have hnz : b1 = false := by rw [← HBB.out]; exact decide_eq_false (by rw [HSN.out]; exact Nat.lt_irrefl _)
                  subst hnz
                  have HC2 := Lib.hid (HPC.out.stay rfl)
                  clear HBB HY HPC
                  go_wp2
                  go_roundw
                  case rel => exact ⟨k + 1, 0, c, A, S, by omega, by go_num, rfl, by omega, HC2⟩
                  case measure => simp [intOf]; omega
            · by_cases hk2 : kd = 2
              · subst hk2
                obtain ⟨p, hp⟩ : ∃ p : Nat, p = min N.toNat n := ⟨_, rfl⟩
                have hpn : p ≤ n := by omega
                have hpc : p ≤ c := by omega
                have hpn2 : (p : Int) ≤ (n : Int) := by omega
                have hpc2 : (p : Int) ≤ (c : Int) := by omega
                have hmm : max 0 (min N (n : Int)) = (p : Int) := by omega
                have HPP := Lib.hid hp; clear hp
                clear m1c m2c m3c
                go_upto_region 24 with fail
                go_cut [127] (fun s wx => s = .bool false ∧ Hid (LRel w q (S.drop p) (if c = p then A else A.map (·.add (p * 3))) (n - p) (c - p) wx))
                case first =>
                  have hslice : True := trivial
                  go_region_held3 (fun w' => w'.cell? ⟨xb, xo + k * 5 + 4, none⟩ = some (.int .i64 N)) (first | assumption | (exact cell_later (by assumption) (by assumption)) | go_keep) (first
                    | (go_at_call 16; refine (LRel.drain (w := w) (by first | exact HRC.out | exact HRC.out.below (below_drawn (Below.refl wc.heap.size wc) 1)) hS9 N ⟨hN1, hN2⟩).mono ?_; rintro e w9 ⟨B, d, rfl, hB1, hA1, hz9, hw9, hrest⟩; rw [← HPP.out] at hB1 hrest; rw [← HPP.out]; have s0 := cell_later hw9 m4; have HB1 := Lib.hid hB1; have HA1 := Lib.hid hA1; have HW9 := Lib.hid hw9; have HRE := Lib.hid hrest; clear hB1 hA1 hw9 hrest)
                    | (go_at_call 15; refine (rsame_any B A p p d c (S.take p) (S.take p) _ (by first | exact HB1.out | exact HB1.out.drew) (by first | exact HA1.out.pre hpn | exact (HA1.out.pre hpn).drew)).mono ?_; rintro e w10 ⟨rfl, qq, hw10⟩; have s1 : w10.cell? ⟨xb, xo + k * 5 + 4, none⟩ = some (.int .i64 N) := (by rw [hw10]; exact s0); have HW10 := Lib.hid hw10; clear hw10))
                  all_goals
                    have hfin : LRel w q (S.drop p) (if c = p then A else A.map (·.add (p * 3))) (n - p) (c - p) w10 := by
                      rw [HW10.out]
                      exact (lrel_cut HA1.out HW9.out hpn HRE.out).below (below_drawn (Below.refl _ _) _)
                    have HFIN := Lib.hid hfin; clear hfin
                    go_wp2
                    go_meet
                    exact ⟨by first | rfl | simp, HFIN⟩
                case rest =>
                  obtain ⟨rfl, HR3⟩ := hcut
                  by_cases hcp : c = p
                  · have hnp : n = p := by omega
                    subst hcp
                    subst hnp
                    have HC2 := Lib.hid (show LRel w q (S.drop n) A 0 0 wc from by have := HR3.out; simpa using this)
                    clear HR3
                    go_wp2
                    go_roundw
                    case rel => exact ⟨k + 1, 0, 0, _, S.drop n, by omega, by go_num, rfl, by omega, HC2⟩
                    case measure => simp [intOf]; omega
                  · obtain ⟨g, off, rfl⟩ := HRC.out.hv.some_ (by omega)
                    have hcpi : ¬ (c : Int) = (p : Int) := by omega
                    by_cases hp0 : p = 0
                    · subst hp0
                      have HC2 := Lib.hid (show LRel w q S (some ⟨g, off, none⟩) n c wc from by have := HR3.out; rw [if_neg hcp] at this; simpa [Addr.add] using this)
                      clear HR3
                      go_wp2
                      go_roundw
                      case rel => exact ⟨k + 1, n, c, _, S, by omega, by go_num, rfl, by omega, HC2⟩
                      case measure => simp [intOf]; omega
                    · have HC2 := Lib.hid (show LRel w q (S.drop p) (some ⟨g, off + p * 3, none⟩) (n - p) (c - p) wc from by have := HR3.out; rw [if_neg hcp] at this; simpa [addr_add] using this)
                      have hp0i : ¬ (p : Int) = 0 := by omega
                      clear HR3
                      go_wp2
                      go_roundw
                      case rel => exact ⟨k + 1, n - p, c - p, _, S.drop p, by omega, by go_num, rfl, by omega, HC2⟩
                      case measure => simp [intOf]; omega
              · have g0 : (kd == 0) = false := by simp [hk0]
                have g1 : (kd == 1) = false := by simp [hk1]
                have g2 : (kd == 2) = false := by simp [hk2]
                go_wp2
                go_roundw
                case rel => exact ⟨k + 1, n, c, A, S, by omega, by go_num, rfl, by omega, HRC⟩
                case measure => simp [intOf]; omega
      · obtain rfl : k = len := by omega
        have HDR := Lib.hid (HR.out.drain hS9 (n : Int) (by omega))
        have hmn : min ((n : Int)).toNat n = n := by omega
        have HMN := Lib.hid hmn; clear hmn hv hSn
        have HTK := Lib.hid (show S.take n = S from List.take_of_length_le (by rw [HSN.out]; exact Nat.le_refl _))
        go_wp2_with fail
        refine HDR.out.mono ?_
        rintro e w3 ⟨B, d, rfl, hB, hA, hz, hw3, hrest⟩
        rw [HMN.out] at hB hrest ⊢
        rw [HTK.out] at hB
        have HB := Lib.hid hB; have HA := Lib.hid hA; have HW3 := Lib.hid hw3; have HRE := Lib.hid hrest
        clear hB hA hw3 hrest hz
        go_wp2_with fail
        refine (rsame_any B A n n d c S S w3 HB.out HA.out).mono ?_
        rintro e w4 ⟨rfl, qq, hw4⟩
        rw [show decide (S = S) = true by simp]
        have hb4 : Below w3.heap.size w3 w4 := by rw [hw4]; exact below_drawn (Below.refl _ _) qq
        have HB4 := Lib.hid (below_trans HW3.out hb4)
        have HLN := Lib.hid (show Calls Try.prog 11 #[.pointer (some ⟨q, 0, none⟩)] w4 fun e w' => e = .returned (.int .i64 0) ∧ w4 = w' from by
          obtain ⟨v, L, h1, h2, _⟩ := HRE.out
          have hL : L = [] := List.eq_nil_of_length_eq_zero (by rw [h2.length_eq, List.length_drop, HSN.out]; omega)
          subst hL
          exact ((h1.below hb4).none_).len)
        clear hw4 hb4
        go_wp2_with fail
        refine HLN.out.mono ?_
        rintro e w5 ⟨rfl, hw5⟩
        subst hw5
        go_wp2_with fail
        refine (known_any _).mono ?_
        rintro e w6 ⟨rfl, hb6⟩
        go_wp2
        go_ret
        exact ⟨rfl, below_trans HB4.out hb6⟩

theorem own : ownKnob Try.prog.godebug = none := by kernel_rfl
theorem laidOut : laidOutB Try.prog = true := by kernel_rfl
set_option maxRecDepth 100000 in
theorem lifted (os : Os) (started : os.Started) (H : Type) (enc : TypeId × Value → H) :
    ReturnsInHanded {} Try.checked os 3 .any (Rows.queuePlaysSpec.pre6 enc Try.prog Try.f3 Rows.queuePlaysRow.domain false) (Rows.queuePlaysSpec.post enc Try.prog Try.f3 false true false false) := by
  refine returnsInHanded_of_change_sized (C := Try.checked) own started (by kernel_rfl) Try.func3
    (ChangeSpec.witness6 (enc := enc) (C := Try.checked) false ⟨#[], #[.slice none 0 0], []⟩ 8 (by kernel_rfl) (by kernel_rfl) (by kernel_rfl) (by kernel_rfl)) ?_
  intro W base args ds gs before hval0 hW hcnd hsz0 _
  have hval : ∀ (j : Nat) t v, Try.f3.params[j]? = some t → args[j]? = some v → Value.okWide Try.prog W .any base t v := hval0
  have hW' := hW
  obtain ⟨p, q, hA0, hV, rfl, hfz, hnd⟩ := hW
  have hA : DataW.TrodAll enc Try.prog W 0 (fun _ => true) true Try.f3.params.toList args.toList ds p := hA0
  rw [Try.params3] at hA hval
  obtain ⟨v0, vs0, d0, ds0, p0, q0, hargs, rfl, rfl, h0, r0⟩ := trodAll_cons hA
  obtain ⟨rfl, rfl, rfl⟩ := trodAll_nil r0
  obtain rfl : args = #[v0] := by cases args; simp_all
  obtain ⟨rfl, rfl⟩ := trodVars_none hV
  have k0 := h0
  have lt0 : ∀ x ∈ p0, x.block < W.heap.size := by obtain ⟨m, hm⟩ := k0; exact DataW.trod_lt m _ _ _ hm
  obtain ⟨a0, len0, cap0, rfl⟩ := okWide_slice Try.underlying22 (hval 0 22 v0 rfl rfl)
  have w0 : IsSl W 5 (OpOk W) a0 len0 cap0 := by
    obtain ⟨fuel, hf⟩ := h0
    exact isSl_of Try.underlying22 (by kernel_rfl) opOk_of hf (fun n hn => of_decide_eq_true (List.all_eq_true.1 hsz0 n (DataW.weights_mem_each (j := 0) (t := 22) (d := d0) rfl rfl n hn)))
  clear hA0 hval0
  refine (walk a0 len0 cap0 W w0).mono fun e W' ⟨he, bel⟩ => ?_
  subst he
  exact ⟨_, rfl, _, _, _, [], _, [], hW', trodAll_mk1 (shut_bool Try.underlying4 _), (trodAll_cons_mk (Below.trod laidOut (by kernel_rfl) (of_decide_eq_true (by kernel_rfl)) k0 bel lt0) trodAll_mk0), rfl, bel.frame _, fun h => by cases h⟩
theorem over : Rows.queuePlaysRow.holds Try.pinned (OpenSpec.ofChange Rows.queuePlaysSpec) :=
  OpenClaim.holds_of_wide 3 Try.f3 rfl rfl rfl rfl rfl rfl rfl ⟨rfl, rfl, rfl, rfl, rfl⟩ rfl rfl rfl rfl rfl (by kernel_rfl) Try.func3 (by kernel_rfl)
    (of_decide_eq_true (by kernel_rfl)) (by unfold Func.isWrapper; first | (rw [if_pos (by decide +kernel)]; kernel_rfl) | (rw [if_neg (by decide +kernel)]; exact ⟨rfl, rfl⟩))
    (fun os started H enc _ => lifted os started H enc)
/-- The statement. -/
theorem proved : Rows.QueuePlaysSaid := over
#print axioms proved
end Go.Proofs.Ytlohbmbahagjbaa.queuePlays
