/- pyramid: Points by contract. -/
import Derived.Test.YtdbiaijpbkmfhaaPyL
import Derived.Test.YtdbiaijpbkmfhaaPy10
import Derived.Test.YtdbiaijpbkmfhaaCellMath3
namespace Go.Proofs.Ytdbiaijpbkmfhaa
set_option linter.unusedVariables false
set_option linter.unusedSimpArgs false
open Go.RowKit Go.Shelf
/-- The point of a code. -/
def pt (c : Int) : Pn := (f1 16 c, f2 16 c)
theorem pt_code {p : Pn} (h : fitsB p.1 p.2 = true) : pt (codeAt 16 p) = p := by
  rw [(code16 p h).1]
  have a := code_back _ _ _ (code16 p h).2
  exact Prod.ext a.2.2.1 a.2.2.2
def ptsOf (S : List Pn) (Ks : List Int) : List Pn := Ks.flatMap fun c => List.replicate (cnt S 16 c) (pt c)
theorem filt_rep {S : List Pn} (hS : FitS S) (c : Int) : S.filter (fun p => codeAt 16 p == c) = List.replicate (cnt S 16 c) (pt c) := by
  rw [List.eq_replicate_iff]
  refine ⟨by rw [cnt, List.countP_eq_length_filter], fun p hp => ?_⟩
  rw [List.mem_filter] at hp
  have hc : codeAt 16 p = c := by simpa using hp.2
  rw [← hc, pt_code (hS p hp.1)]
theorem pts_filt {S : List Pn} (hS : FitS S) (Ks : List Int) : ptsOf S Ks = Ks.flatMap fun c => S.filter (fun p => codeAt 16 p == c) := by
  unfold ptsOf
  congr 1
  funext c
  exact (filt_rep hS c).symm
theorem flat_congr {α β : Type} {r : List α} {f g : α → List β} (h : ∀ d ∈ r, f d = g d) : r.flatMap f = r.flatMap g := by
  induction r with
  | nil => rfl
  | cons a r ih => rw [List.flatMap_cons, List.flatMap_cons, h a (List.mem_cons_self ..), ih fun d hd => h d (List.mem_cons_of_mem _ hd)]
theorem part_perm (f : Pn → Int) : ∀ (Ks : List Int) (S : List Pn), Ks.Nodup → (∀ p ∈ S, f p ∈ Ks) → (Ks.flatMap fun c => S.filter fun p => f p == c).Perm S := by
  intro Ks
  induction Ks with
  | nil =>
    intro S _ h
    cases S with
    | nil => exact List.Perm.refl _
    | cons p r => exact absurd (h p (List.mem_cons_self ..)) (by simp)
  | cons c r ih =>
    intro S hn h
    have hn2 := List.nodup_cons.1 hn
    have h1 := ih (S.filter fun p => !(f p == c)) hn2.2 (fun p hp => by
      rw [List.mem_filter] at hp
      rcases List.mem_cons.1 (h p hp.1) with e | e
      · have h2 := hp.2; simp [e] at h2
      · exact e)
    have h2 : (r.flatMap fun d => (S.filter fun p => !(f p == c)).filter fun p => f p == d) = r.flatMap fun d => S.filter fun p => f p == d := by
      refine flat_congr fun d hd => ?_
      rw [List.filter_filter]
      refine List.filter_congr fun p _ => ?_
      by_cases e : f p = d
      · subst e
        have : f p ≠ c := fun e2 => hn2.1 (e2 ▸ hd)
        simp [this]
      · simp [e]
    rw [h2] at h1
    rw [List.flatMap_cons]
    exact (List.Perm.append_left _ h1).trans (List.filter_append_perm _ _)
theorem pts_perm {S : List Pn} (hS : FitS S) {Ks : List Int} (hk : KeyR (cH S 16) Ks) : (ptsOf S Ks).Perm S := by
  rw [pts_filt hS]
  refine part_perm (codeAt 16) Ks S hk.1 fun p hp => ?_
  rw [hk.2.2, cH_some]
  simp only [decide_eq_true_eq]
  exact cnt_pos.2 (List.mem_map.2 ⟨p, hp, rfl⟩)
theorem pts_srt {S : List Pn} (hS : FitS S) {Ks : List Int} (hs : Ks.Pairwise (· ≤ ·)) : Srt (ptsOf S Ks) := by
  rw [pts_filt hS]
  unfold Srt
  rw [List.pairwise_flatMap]
  have hcd : ∀ p ∈ S, cd p = codeAt 16 p := fun p hp => (code16 p (hS p hp)).1.symm
  refine ⟨fun c _ => ?_, hs.imp fun {a b} hab x hx y hy => ?_⟩
  · rw [List.pairwise_iff_forall_sublist]
    intro x y hxy
    have hx := List.mem_filter.1 (hxy.subset (List.mem_cons_self ..))
    have hy := List.mem_filter.1 (hxy.subset (List.mem_cons_of_mem _ (List.mem_cons_self ..)))
    unfold LtE
    rw [hcd _ hx.1, hcd _ hy.1]
    have e1 : codeAt 16 x = c := by simpa using hx.2
    have e2 : codeAt 16 y = c := by simpa using hy.2
    omega
  · rw [List.mem_filter] at hx hy
    unfold LtE
    rw [hcd _ hx.1, hcd _ hy.1]
    have e1 : codeAt 16 x = a := by simpa using hx.2
    have e2 : codeAt 16 y = b := by simpa using hy.2
    omega
/-- Two rows in order with the same points are one. -/
theorem srt_uniq {L T : List Pn} (hL : Srt L) (hT : Srt T) (hp : L.Perm T) (hf : FitS L) : L = T := by
  refine List.Perm.eq_of_pairwise (le := fun a b => ¬ LtE b a) (fun a b ha hb h1 h2 => ?_) hL hT hp
  unfold LtE at h1 h2
  have hfa := hf a ha
  have hfb := hf b (hp.mem_iff.2 hb)
  refine code16_inj hfa hfb ?_
  rw [(code16 a hfa).1, (code16 b hfb).1]
  unfold cd at h1 h2
  omega
theorem pts_step {S : List Pn} {Ks : List Int} {k : Nat} (hk : k < Ks.length) : ptsOf S (Ks.take (k + 1)) = ptsOf S (Ks.take k) ++ List.replicate (cnt S 16 Ks[k]) (pt Ks[k]) := by
  unfold ptsOf
  rw [List.take_succ_eq_append_getElem hk, List.flatMap_append, List.flatMap_cons, List.flatMap_nil, List.append_nil]
theorem pts_len {S : List Pn} (hS : FitS S) {Ks : List Int} (hk : KeyR (cH S 16) Ks) (k : Nat) : (ptsOf S (Ks.take k)).length ≤ S.length := by
  have h1 : (ptsOf S Ks).length = S.length := (pts_perm hS hk).length_eq
  have h2 : ptsOf S Ks = ptsOf S (Ks.take k) ++ ptsOf S (Ks.drop k) := by
    unfold ptsOf
    rw [← List.flatMap_append, List.take_append_drop]
  rw [h2, List.length_append] at h1
  omega
theorem flat_len {α β : Type} (f : α → List β) : ∀ r : List α, (∀ d ∈ r, 1 ≤ (f d).length) → r.length ≤ (r.flatMap f).length := by
  intro r
  induction r with
  | nil => intro _; exact Nat.zero_le _
  | cons a r ih =>
    intro h
    have h1 := h a (List.mem_cons_self ..)
    have h2 := ih fun d hd => h d (List.mem_cons_of_mem _ hd)
    rw [List.flatMap_cons, List.length_append, List.length_cons]
    omega
theorem keyr_len {S : List Pn} (hS : FitS S) {Ks : List Int} (hk : KeyR (cH S 16) Ks) : Ks.length ≤ S.length := by
  have h1 : (ptsOf S Ks).length = S.length := (pts_perm hS hk).length_eq
  have h2 := flat_len (fun c => List.replicate (cnt S 16 c) (pt c)) Ks fun c hc => by
    have := (hk.2.2 c).1 hc
    rw [cH_some] at this
    simp only [decide_eq_true_eq] at this
    rw [List.length_replicate]; omega
  unfold ptsOf at h1
  omega
/-- The greatest level's map. -/
theorem PyR.value16 {w : World} {y : Nat} {cs : Array Value} {S : List Pn} {B : Nat} (h : PyR w y cs (fun _ => S) B) :
    ∃ v : Option Nat, w.cell? ⟨y, 16, none⟩ = some (Value.map v) ∧ (∀ W : World, Below w.heap.size w W → ∀ c : Int, (Lit.int .u64 c).wf = true → (Instr.lookup 55 (Value.map v) (.int .u64 c) false).run Try.prog W = .ok (.int .i64 (cnt S 16 c : Int)) W) ∧
      ∀ (bm : Nat) (W : World), Below w.heap.size w W → W.cell? ⟨bm, 0, none⟩ = some (.map v) →
        SeqStopsK Fence.wide 8 Try.prog 51 #[.pointer (some ⟨bm, 0, none⟩)] (fun x : Int => #[.int .u64 x]) KeepsWalks (KeyR (cH S 16)) (fun _ => True) (nd (S.map (codeAt 16))) W := by
  obtain ⟨v, hv, hL⟩ := h.hl 16 (by omega)
  have hc : w.cell? ⟨y, 16, none⟩ = some v := by rw [h.hq.cell]; exact hv
  rcases hL with ⟨rfl, hP⟩ | ⟨m, n, rfl, hn, hm⟩
  · subst hP
    refine ⟨none, hc, fun W _ c hwf => nil_look c W, fun bm W _ hb => ?_⟩
    have e : cH [] 16 = fun _ => none := by funext c; simp [cH, cnt]
    rw [e]
    exact keys_stops_nil 8 bm W hb
  · refine ⟨some m, hc, fun W hW c hwf => ?_, fun bm W hW hb => ?_⟩
    · have := (hm.keep (w' := W) (hW.block m hm.lt)).look c hwf
      rw [cH_get] at this
      exact this
    · exact keys_stops 8 (by omega) bm m n _ _ W (hm.keep (w' := W) (hW.block m hm.lt)) hb
theorem uwf {c : Int} (h : uOk c) : (Lit.int .u64 c).wf = true := by
  have h1 : IntKind.u64.min = 0 := by decide
  have h2 : IntKind.u64.max = 18446744073709551615 := by decide
  unfold uOk at h
  simp only [Lit.wf, h1, h2, Bool.and_eq_true, decide_eq_true_eq]
  omega
theorem eown_cellU {w : World} {A : Option Addr} {n c : Nat} {L : List Int} (h : EOwn elU6 w (.slice A n c) L) {i : Nat} (hi : i < L.length) : n = L.length ∧ ∃ g, A = some ⟨g, 0, none⟩ ∧ w.cell? ⟨g, i, none⟩ = some (.int .u64 L[i]) := by
  obtain ⟨h1, g, h2, h3⟩ := h.cell elU6_ok (List.getElem?_eq_getElem hi)
  refine ⟨h1, g, h2, ?_⟩
  have := h3 0 (.int .u64 L[i]) rfl
  simpa [elU6] using this
/-- Points: the pyramid's points in the order of their codes. -/
def PtsP (S : List Pn) (w : World) (e : Ending) (w' : World) : Prop := ∃ A c L, e = .returned (.slice A L.length c) ∧ Fresh w (.slice A L.length c) L w' ∧ L.Perm S ∧ Srt L
theorem Fresh.trans {w w2 wr : World} {v : Value} {L : List Pn} (h : Fresh w2 v L wr) (hb : Below w.heap.size w w2) : Fresh w v L wr := ⟨h.1, below_trans hb h.2.1, fun i hi => Nat.le_trans hb.size (h.2.2 i hi)⟩
theorem fresh_blk {w wr w' : World} {v v' : Value} {L : List Pn} {x : Pn} {g : Nat} {t : TypeId} {cs : Array Value} {o : Obj} (h : Fresh w v L wr) (hb : Blk wr g t cs) (hn : t ≠ 29) (ha : Appended v (L ++ [x]) (wr.alloc o) v' w') : Blk w' g t cs := by
  obtain ⟨g', cap, rfl, hr, hg, ho⟩ := ha
  have hb2 : Blk (wr.alloc o) g t cs := hb.thru0 ((Below.refl _ _).alloc (Nat.le_refl _) _)
  refine hb2.grown hg (fun e => ?_)
  have h1 := h.1.below ((Below.refl _ wr).alloc (Nat.le_refl _) o)
  rcases h1 with ⟨rfl, _⟩ | ⟨g2, c2, rfl, cur, h2, _⟩
  · simp [Value.ownBlock] at e
  · simp [Value.ownBlock] at e
    subst e
    unfold Blk at h2 hb2
    rw [hb2] at h2
    cases h2
    exact hn rfl
theorem pt_ok {c : Int} : pt c = (f1 16 c, f2 16 c) := rfl
set_option maxRecDepth 100000 in
set_option maxHeartbeats 8000000 in
theorem points_any (y : Nat) (cs : Array Value) (S : List Pn) (B : Nat) (w : World) (h : PyR w y cs (fun _ => S) B) (hS : FitS S) (hl : S.length ≤ 10000) :
    Calls Try.prog 20 #[.pointer (some ⟨y, 0, none⟩)] w (PtsP S w) := by
  obtain ⟨mv, hc, hlook, hseq⟩ := h.value16
  have hnd : nd (S.map (codeAt 16)) ≤ 10000 := by have := nd_le (S.map (codeAt 16)); simp at this; omega
  have hlen : ∀ Ks, KeyR (cH S 16) Ks → Ks.length ≤ 100000 := fun Ks hk => by have := keyr_len hS hk; omega
  have hA : Below w.heap.size w (w.alloc (.cells #[.map mv] 55)) := (Below.refl _ _).alloc (Nat.le_refl _) _
  have HSR := Lib.hid (srtd_any (w.alloc (.cells #[.map mv] 55)) w.heap.size _ (cH S 16) (Nat.le_trans hnd (by omega))
    (fun W hW => hseq w.heap.size W (below_trans hA hW) ((hW.cell (p := ⟨w.heap.size, 0, none⟩) (by simp)).trans (new_cellU _ _ _ 0 rfl))) hlen)
  have HLOOK := Lib.hid hlook
  have HA := Lib.hid hA
  have HPP := Lib.hid (fun Ks hk => pts_perm (Ks := Ks) hS hk)
  have HPS := Lib.hid (fun Ks hk => pts_srt (Ks := Ks) hS hk)
  have HPL := Lib.hid (fun Ks hk k => pts_len (Ks := Ks) hS hk k)
  have HKL := Lib.hid (fun Ks hk => keyr_len (Ks := Ks) hS hk)
  have HKY := Lib.hid (fun m => (callsIn_wide (n := m)).1 (keys_any m mv w))
  clear hlook hseq hlen hA hS h hnd
  go_enter Try.func20, Try.ntmps20
  go_wp2_with fail
  refine (HKY.out 1).mono ?_
  rintro e w1 ⟨rfl, hw1⟩
  subst hw1
  go_wp2_with fail
  refine HSR.out.mono ?_
  rintro e w2 ⟨v, Ks, rfl, hk, hs, ho, hf, hb⟩
  have HK := Lib.hid hk
  have HB := Lib.hid (below_trans HA.out hb)
  have HO := Lib.hid ho
  have HS := Lib.hid hs
  have HL := Lib.hid (HKL.out Ks hk)
  have HPL2 := Lib.hid (fun k => HPL.out Ks hk k)
  obtain ⟨A, c0, rfl, hc1, hc2⟩ := ho.slice
  obtain ⟨n, hn⟩ : ∃ n, n = Ks.length := ⟨_, rfl⟩
  rw [← hn] at HO hc1 ⊢
  have HN := Lib.hid hn
  have hnl : n ≤ 10000 := by have := HL.out; omega
  clear hk hs ho hf hb hn HSR HKY HKL HPL hc
  have HF0 := Lib.hid (show Fresh w2 (.slice none 0 0) (ptsOf S (Ks.take 0)) w2 from by simpa [ptsOf] using Fresh.nil_ w2)
  go_wp2_with fail
  go_loopw [4, 20] (fun v i wr => ∃ (k : Nat) (v0 : Value), k ≤ n ∧ i = .int .i64 k ∧ v = v0 ∧ Hid (Fresh w2 v0 (ptsOf S (Ks.take k)) wr)) (fun _ i _ => n - (intOf i).toNat)
  case atStart => exact ⟨0, _, Nat.zero_le _, rfl, rfl, HF0⟩
  case round =>
    clear HF0
    obtain ⟨k, v0, hkn, rfl, rfl, HR⟩ := hrel
    by_cases hlt : k < n
    · have hki : (k : Int) < (n : Int) := by omega
      have hkl : k < Ks.length := by rw [← HN.out]; exact hlt
      obtain ⟨-, g, rfl, hcell⟩ := eown_cellU HO.out hkl
      have HST := Lib.hid (pts_step (S := S) hkl)
      have HPK := Lib.hid (HPL2.out (k + 1))
      have HOK := Lib.hid (HK.out.2.1 Ks[k] (List.getElem_mem hkl))
      generalize hCC : Ks[k] = cc at *
      clear hCC hkl
      have a0 := cell_later HR.out.2.1 hcell
      have HFC := Lib.hid (fun W => from_u 16 cc HOK.out.1 W)
      have HLK := Lib.hid (fun W hW => HLOOK.out W hW cc (uwf HOK.out))
      obtain ⟨A1, c1, rfl, _, _⟩ := HR.out.1.slice
      have HPT := Lib.hid (pt_ok (c := cc))
      generalize okF 16 cc = bb at *
      generalize f0 16 cc = z0 at *
      generalize f1 16 cc = z1 at *
      generalize f2 16 cc = z2 at *
      generalize pt cc = pp at *
      obtain ⟨q, hq⟩ : ∃ q, cnt S 16 cc = q := ⟨_, rfl⟩
      rw [hq] at HST HLK
      clear hq hcell
      have hpk : q + (ptsOf S (Ks.take k)).length ≤ 10000 := by
        have h1 := HPK.out
        rw [HST.out, List.length_append, List.length_replicate] at h1
        omega
      have HNX := Lib.hid HST.out
      generalize hLL : ptsOf S (Ks.take k) = L at *
      generalize hLN : ptsOf S (Ks.take (k + 1)) = LN at *
      clear HPK HST
      go_wp2_with fail
      refine (HFC.out _).mono ?_
      rintro e w3 ⟨rfl, hb3⟩
      have HR3 := Lib.hid (HR.out.below hb3)
      clear hb3 a0
      have HB4 := Lib.hid (show Below w3.heap.size w3 (w3.alloc (.cells #[.int .i64 z0, .int .i64 z1, .int .i64 z2] 24)) from (Below.refl _ _).alloc (Nat.le_refl _) _)
      have hlk := HLK.out (w3.alloc (.cells #[.int .i64 z0, .int .i64 z1, .int .i64 z2] 24)) (below_trans HB.out (below_trans HR3.out.2.1 HB4.out))
      have HBK := Lib.hid (Blk.new w3 24 #[.int .i64 z0, .int .i64 z1, .int .i64 z2])
      have HR4 := Lib.hid (HR3.out.below HB4.out)
      go_wp2_with fail
      obtain ⟨g3, hg3⟩ : ∃ g3, w3.heap.size = g3 := ⟨_, rfl⟩
      rw [hg3] at HBK ⊢
      generalize (w3.alloc (.cells #[.int .i64 z0, .int .i64 z1, .int .i64 z2] 24)) = w4 at *
      clear hlk HFC HLK HR3 HB4 hg3 HR
      go_loopw [4, 32] (fun v i wr => ∃ (j : Nat) (A2 : Option Addr) (c2 : Nat), j ≤ q ∧ i = .int .i64 j ∧ v = .slice A2 (L.length + j) c2 ∧ Hid (Fresh w2 (.slice A2 (L.length + j) c2) (L ++ List.replicate j pp) wr) ∧ Hid (Blk wr g3 24 #[.int .i64 z0, .int .i64 z1, .int .i64 z2])) (fun _ i _ => q - (intOf i).toNat)
      case atStart => exact ⟨0, A1, c1, Nat.zero_le _, rfl, rfl, by simpa using HR4, HBK⟩
      case round =>
        clear HR4 HBK
        obtain ⟨j, A2, c2, hjq, rfl, rfl, HR, HBJ⟩ := hrel
        by_cases hjl : j < q
        · have hji : (j : Int) < (q : Int) := by omega
          have x0 := HBJ.out.cell 0
          have x1 := HBJ.out.cell 1
          have x2 := HBJ.out.cell 2
          simp only [List.getElem?_toArray, List.getElem?_cons_zero, List.getElem?_cons_succ] at x0 x1 x2
          have HLE := Lib.hid (show (L ++ List.replicate j pp).length = L.length + j by simp)
          have HRP := Lib.hid (show (L ++ List.replicate j pp) ++ [pp] = L ++ List.replicate (j + 1) pp by rw [List.replicate_succ', List.append_assoc])
          obtain ⟨m, hm⟩ : ∃ m, L.length + j = m := ⟨_, rfl⟩
          rw [hm] at HR HLE ⊢
          generalize L ++ List.replicate j pp = M at *
          go_wp2_with (at_builtin; refine wpList_push rfl (.tmp 34) (.tmp 40) _ rfl Try.underlying27 (.slice A2 m c2) M pp _ 1 rfl rfl (HR.out.1.alloc _) (by rw [HPT.out]; exact new_cell _ _ _ 0 rfl) (by rw [HPT.out]; exact new_cell _ _ _ 1 rfl) (by have := HLE.out; omega) ?_; rintro pv pw pa; have ph := Fresh.append HR.out ((Below.refl _ _).alloc (Nat.le_refl _) _) pa; have pb := Lib.hid (fresh_blk HR.out HBJ.out (by decide) pa); obtain ⟨pg, pc, rfl, _, _, _⟩ := pa; simp only [List.length_append, List.length_cons, List.length_nil, Nat.zero_add] at ph; have Hp := Lib.hid ph; clear ph)
          go_roundw
          case rel => exact ⟨j + 1, _, pc, by omega, by go_num, by first | (congr 1; have := HLE.out; omega) | (congr 1; have := HLE.out; simp; omega) | (congr 2; have := HLE.out; simp; omega), by
            have h1 := Hp.out
            have e1 := HRP.out
            have e2 : M.length + 1 = L.length + (j + 1) := by have := HLE.out; omega
            simp only [List.length_append, List.length_cons, List.length_nil, Nat.zero_add, e1, e2] at h1
            exact Lib.hid h1, pb⟩
          case measure => simp [intOf]; omega
        · obtain rfl : j = q := by omega
          have HN2 := Lib.hid (show Fresh w2 (.slice A2 (L.length + j) c2) LN wr from by rw [HNX.out]; exact HR.out)
          clear HR HBJ
          go_wp2
          go_roundw
          case rel => exact ⟨k + 1, _, by omega, by go_num, rfl, by rw [hLN]; exact HN2⟩
          case measure => simp [intOf]; omega
    · obtain rfl : k = n := by omega
      have hT : Ks.take k = Ks := List.take_of_length_le (by rw [HN.out]; exact Nat.le_refl _)
      rw [hT] at HR
      obtain ⟨A1, c1, rfl, _, _⟩ := HR.out.1.slice
      have HE := Lib.hid (show PtsP S w (.returned (.slice A1 (ptsOf S Ks).length c1)) wr from ⟨A1, c1, _, rfl, HR.out.trans HB.out, HPP.out Ks HK.out, HPS.out Ks HS.out⟩)
      clear hT HR
      generalize ptsOf S Ks = L at *
      go_wp2
      go_ret
      exact HE.out
end Go.Proofs.Ytdbiaijpbkmfhaa
