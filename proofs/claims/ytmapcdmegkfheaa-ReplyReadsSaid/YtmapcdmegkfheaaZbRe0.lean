/- reply: rows of bytes made since; numbers put, by contract. -/
import Derived.Test.YtmapcdmegkfheaaZbWr0M
import Derived.Test.YtmapcdmegkfheaaZbSe4
namespace Go.Proofs.Ytmapcdmegkfheaa
set_option linter.unusedVariables false
set_option linter.unusedSimpArgs false
open Go.RowKit
/-- A row of bytes made since w. -/
structure FBy (w : World) (v : Value) (L : Bs) (wr : World) : Prop where
  own : EOwn elB wr v L
  bel : Below w.heap.size w wr
  far : ∀ i, v.ownBlock = some i → w.heap.size ≤ i
theorem FBy.nil_ (w wr : World) (h : Below w.heap.size w wr) : FBy w (.slice none 0 0) [] wr := ⟨EOwn.nil_ _, h, fun i hi => by simp [Value.ownBlock] at hi⟩
theorem FBy.app {w wr w1 w' : World} {v v' : Value} {L M : Bs} (h : FBy w v L wr) (hb : Below wr.heap.size wr w1) (ha : EApp elB v (L ++ M) w1 v' w') : FBy w v' (L ++ M) w' := by
  have hs : w.heap.size ≤ w1.heap.size := Nat.le_trans h.bel.size hb.size
  refine ⟨ha.1, (h.bel.trans (hb.mono h.bel.size)).grown ha.2.1 hs h.far, fun i hi => ?_⟩
  rcases ha.2.2 i hi with h4 | h4
  · exact h.far i h4
  · omega
theorem FBy.below {w wr w' : World} {v : Value} {L : Bs} (h : FBy w v L wr) (hb : Below wr.heap.size wr w') : FBy w v L w' := ⟨h.own.below hb, h.bel.trans (hb.mono h.bel.size), h.far⟩
theorem rbv_encs (M : Bs) : elB.encs M = bv M := by
  induction M with
  | nil => rfl
  | cons c M ih =>
    have e1 : elB.encs (c :: M) = elB.enc c ++ elB.encs M := rfl
    rw [e1, ih]; rfl
/-- Numbers, as a row of them lies. -/
def elZ : El Int := { T := 3, k := 1, by_ := 8, z := .int .i64 0, enc := fun c => [.int .i64 c] }
theorem elZ_ok : elZ.Ok := ⟨Nat.one_pos, fun _ => rfl, fun x u hu => by simp [elZ] at hu; subst hu; rfl, by kernel_rfl, rfl, by decide⟩
theorem EOwn.zcell {w : World} {g n c : Nat} {L : List Int} (h : EOwn elZ w (.slice (some ⟨g, 0, none⟩) n c) L) {j : Nat} {x : Int} (hj : L[j]? = some x) : w.cell? ⟨g, j, none⟩ = some (.int .i64 x) := by
  obtain ⟨_, g', e, hc⟩ := EOwn.cell elZ_ok h hj
  obtain rfl : g = g' := by simpa using e
  have := hc 0 (.int .i64 x) rfl
  simpa [elZ] using this
/-- The bytes of a row of numbers, so many each. -/
def rowB (k : Nat) (L : List Int) : Bs := L.flatMap fun x => putL (toU x) k
theorem rowB_snoc (k : Nat) (L : List Int) (x : Int) : rowB k (L ++ [x]) = rowB k L ++ putL (toU x) k := by simp [rowB]
theorem rowB_len (k : Nat) (L : List Int) : (rowB k L).length ≤ L.length * k := by
  induction L with
  | nil => simp [rowB]
  | cons x L ih =>
    have e : rowB k (x :: L) = putL (toU x) k ++ rowB k L := rfl
    have := putL_le (toU x) k
    rw [e, List.length_append, List.length_cons, Nat.add_mul, Nat.one_mul]; omega
set_option maxRecDepth 100000 in
set_option maxHeartbeats 4000000 in
theorem puti_any (w : World) (k : Nat) (h1 : 1 ≤ k) (h8 : k ≤ 8) (L : List Int) (g c : Nat) (ho : EOwn elZ w (.slice (some ⟨g, 0, none⟩) L.length c) L) (hl : L.length ≤ 100) :
    Calls Try.prog 27 #[.int .i64 (k : Int), .slice (some ⟨g, 0, none⟩) L.length c] w fun e w' => ∃ v, e = .returned v ∧ FBy w v (rowB k L) w' := by
  have HO := Lib.hid ho
  have H1 := Lib.hid h1
  have H8 := Lib.hid h8
  have HF0 := Lib.hid (FBy.nil_ w w (Below.refl _ _))
  obtain ⟨m, hm⟩ : ∃ m, m = L.length := ⟨_, rfl⟩
  rw [← hm] at HO hl ⊢
  have HM := Lib.hid hm
  clear ho hm h1 h8
  go_enter Try.func27, Try.ntmps27
  go_wp2_with fail
  go_loopw [5, 12] (fun v i wr => ∃ j : Nat, j ≤ m ∧ i = .int .i64 j ∧ Hid (FBy w v (rowB k (L.take j)) wr)) (fun _ i _ => m - (intOf i).toNat)
  case atStart => exact ⟨0, Nat.zero_le _, rfl, HF0⟩
  case round =>
    rename_i v i
    rename World => wr
    obtain ⟨j, hj, rfl, HF⟩ := hrel
    obtain ⟨A2, c2, hv, hlc2, hcm2⟩ := HF.out.own.slice
    by_cases hlt : j < m
    · have hjl : j < L.length := by rw [← HM.out]; exact hlt
      have HTK : Hid (L.take (j + 1) = L.take j ++ [L[j]]) := Lib.hid (List.take_succ_eq_append_getElem hjl)
      have kc := (HO.out.below HF.out.bel).zcell (List.getElem?_eq_getElem hjl)
      generalize L[j] = x at *
      have HSN := Lib.hid (rowB_snoc k (L.take j) x)
      rw [← HTK.out] at HSN
      have HLN : Hid ((rowB k (L.take j)).length ≤ 800) := Lib.hid (by
        have h1 := rowB_len k (L.take j)
        have h2 : (L.take j).length * k ≤ 100 * 8 := Nat.mul_le_mul (by rw [List.length_take]; omega) H8.out
        omega)
      have wu := wrapU x
      have HPU := Lib.hid (put_any (toU x) (toU_le x) k H1.out H8.out wr)
      unfold PutPost at HPU
      generalize rowB k (L.take j) = R at *
      generalize R.length = lj at hv hlc2
      subst hv
      clear hlc2 hcm2 hjl
      go_wp2_with fail
      refine HPU.out.mono ?_
      rintro e w1 (⟨hlt1, A, c1, rfl, hrb, hb⟩ | ⟨hge, rfl, hb⟩)
      · have HPL : Hid (putL (toU x) k = be k (toU x)) := Lib.hid (by unfold putL; rw [if_pos hlt1])
        have HRB := Lib.hid hrb
        have HOW := Lib.hid (HF.out.own.below hb)
        have HBB := Lib.hid hb
        have HLB := Lib.hid (be_length k (toU x))
        clear hlt1 hrb hb
        generalize be k (toU x) = M at *
        have HRM : Hid (Reads w1 w1.heap.size 1 A M.length (elB.encs M)) := Lib.hid (by rw [rbv_encs, HLB.out]; exact HRB.out)
        have HML : Hid (M.length ≤ 8) := Lib.hid (by rw [HLB.out]; exact H8.out)
        obtain rfl : M.length = k := HLB.out
        clear HLB HRB
        go_wp2_with ((at_builtin; refine wpList_eappr2 (e2 := 5) elB_ok rfl _ _ 24 24 rfl (by kernel_rfl) (by kernel_rfl) _ R M A c1 rfl rfl HOW.out HRM.out (by have := HLN.out; have := HML.out; simp only [maxLen]; omega) (by have := HLN.out; have := HML.out; have h1 : elB.by_ = 1 := rfl; rw [h1]; omega) ?_; intro v' w9 hA; have HA := Lib.hid hA; clear hA))
        go_roundw
        case rel => exact ⟨j + 1, by omega, by go_num, Lib.hid (by rw [HSN.out, HPL.out]; exact HF.out.app HBB.out HA.out)⟩
        case measure => simp [intOf]; omega
      · have HPL : Hid (putL (toU x) k = []) := Lib.hid (by unfold putL; rw [if_neg (by omega)])
        have HOW := Lib.hid (HF.out.own.below hb)
        have HBB := Lib.hid hb
        have HRM : Hid (Reads w1 w1.heap.size 1 none 0 (elB.encs [])) := Lib.hid Reads.none_
        clear hge hb
        go_wp2_with ((at_builtin; refine wpList_eappr2 (e2 := 5) elB_ok rfl _ _ 24 24 rfl (by kernel_rfl) (by kernel_rfl) _ R [] none 0 rfl rfl HOW.out HRM.out (by have := HLN.out; simp only [maxLen, List.length_nil]; omega) (by have := HLN.out; have h1 : elB.by_ = 1 := rfl; rw [h1, List.length_nil]; omega) ?_; intro v' w9 hA; have HA := Lib.hid hA; clear hA))
        go_roundw
        case rel => exact ⟨j + 1, by omega, by go_num, Lib.hid (by rw [HSN.out, HPL.out]; exact HF.out.app HBB.out HA.out)⟩
        case measure => simp [intOf]; omega
    · obtain rfl : j = m := by omega
      have HT2 : Hid (L.take j = L) := Lib.hid (by rw [HM.out, List.take_length])
      rw [HT2.out] at HF hv
      generalize (rowB k L).length = lj at hv hlc2
      subst hv
      go_wp2_with fail
      go_ret
      exact ⟨_, rfl, HF.out⟩
end Go.Proofs.Ytmapcdmegkfheaa
