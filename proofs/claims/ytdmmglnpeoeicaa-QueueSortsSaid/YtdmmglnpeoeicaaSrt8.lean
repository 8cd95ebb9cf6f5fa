/- sort.Sort over the entries of a row. -/
import Derived.Test.YtdmmglnpeoeicaaSrt7
namespace Go.Proofs.Ytdmmglnpeoeicaa
set_option linter.unusedVariables false
set_option linter.unusedSimpArgs false
open Go.RowKit
theorem permIn_full {d d' : Array En} (h : Sort.PermIn 0 d.size d d') : d'.toList.Perm d.toList := by
  have h3 := h.2.2
  have h1 := h.1
  rw [show d'.extract 0 d.size = d' by rw [← h1]; simp, show d.extract 0 d.size = d by simp] at h3
  exact h3
theorem srt_full {d : Array En} (h : Sort.SortedIn ltE 0 d.size d) : Srt d.toList := by
  unfold Srt
  rw [List.pairwise_iff_getElem]
  intro i j hi hj hij
  have h1 := ltE_false.1 (h i j (Nat.zero_le _) hij (by simpa using hj))
  rw [← at_arr, ← at_arr, at_get hi, at_get hj] at h1
  exact h1
theorem slen_any (v : Option Addr) (n c : Nat) (w : World) : Calls Try.prog 64 #[.slice v n c] w fun e w' => e = .returned (.int .i64 (n : Int)) ∧ w = w' := by
  go_enter Try.func64, Try.ntmps64
  go_wp2
  go_ret
  exact ⟨rfl, rfl⟩
set_option maxHeartbeats 1000000 in
theorem ssort_tiny (A : Option Addr) (n c : Nat) (w : World) (hn : n ≤ 1) :
    Calls Try.prog 26 #[.iface 46 (.slice A n c)] w fun e w' => e = .returned (.tuple #[]) ∧ w = w' := by
  have mN := meth_slen
  have hni : (n : Int) ≤ 1 := by omega
  have hL := Lib.hid (slen_any A n c)
  go_enter Try.func26, Try.ntmps26
  go_wp2_with fail
  refine (hL.out _).mono ?_
  rintro e w2 ⟨rfl, rfl⟩
  go_wp2
  (try simp only [Exit.inBlock, Exit.then])
  refine bodyPost_ret (results_none rfl _ _ _) rfl ?_
  exact ⟨rfl, rfl⟩
set_option maxHeartbeats 1000000 in
theorem ssort_any (w0 : World) (g cap n : Nat) (d : Array En) (w : World) (h : SA w0 g cap d w) (hs : d.size = n) (h2 : 2 ≤ n) (hn : n ≤ 1000000) :
    Calls Try.prog 26 #[.iface 46 (.slice (some ⟨g, 0, none⟩) n cap)] w fun e w' => SrtP w0 g cap 0 n d e w' := by
  have mN := meth_slen
  have hni : ¬ (n : Int) ≤ 1 := by omega
  have hn9 : (n : Int) ≤ 1000000 := by omega
  have hL := Lib.hid (slen_any (some ⟨g, 0, none⟩) n cap)
  have hB := Lib.hid (fun w => Try.bits_Len (n : Int) w (by omega) (by omega))
  have hb62 : Lib.bitLen n ≤ 62 := Lib.bitLen_le n 62 (by omega) (by omega)
  have HP := Lib.hid (fun (w' : World) (h' : SA w0 g cap d w') => spdq_any w0 g cap n (by omega) n 0 n (Lib.bitLen n) d w' rfl h' hs (Nat.zero_le _) (Nat.le_refl _) (by omega) (.inl rfl))
  have H := Lib.hid h
  have wr : IntKind.u64.wrap (n : Int) = n := by simp [IntKind.wrap, IntKind.bits, IntKind.signed]; omega
  clear h hs
  go_enter Try.func26, Try.ntmps26
  go_wp2_with fail
  refine (hL.out _).mono ?_
  rintro e w2 ⟨rfl, rfl⟩
  go_wp2_with fail
  refine (hB.out _).mono ?_
  rintro e w3 ⟨rfl, hw3⟩
  subst hw3
  rw [Int.toNat_natCast]
  generalize Lib.bitLen n = l at *
  have HP2 := Lib.hid (HP.out _ H.out)
  clear HP
  go_wp2_with fail
  refine HP2.out.mono ?_
  rintro e w4 ⟨rfl, hp⟩
  have HE := Lib.hid hp; clear hp
  go_wp2
  go_end0
  exact ⟨rfl, HE.out⟩
end Go.Proofs.Ytdmmglnpeoeicaa
