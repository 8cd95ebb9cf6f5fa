/- roster: All by contract; it is the document's row. -/
import Derived.Test.YtolbjlphpgfcpaaRoXn
namespace Go.Proofs.Ytolbjlphpgfcpaa
set_option linter.unusedVariables false
set_option linter.unusedSimpArgs false
open Go.RowKit Go.Sort Go.Maps
theorem new_m2 (w : World) (o : Obj) (t : TypeId) (x : Mb) : ∀ j u, (elM.enc x)[j]? = some u → ((w.alloc o).alloc (.cells #[.int .i64 x.user, .int .i64 x.role, .int .i64 x.tier, .int .i64 x.quota, .int .i64 x.k, .int .u64 x.area] t)).cell? ⟨w.heap.size + 1, j, none⟩ = some u := by
  have h := new_m (w.alloc o) t x
  have e : (w.alloc o).heap.size = w.heap.size + 1 := by simp
  rw [e] at h
  exact h
def AlP (H : Int → Option Mb) (w : World) (e : Ending) (w' : World) : Prop := ∃ (v : Value) (Ks : List Int), e = .returned v ∧ FE elM w v (Ks.map (fiM H)) w' ∧ Ks.Pairwise (· < ·) ∧ ∀ u, u ∈ Ks ↔ (u = 0 ∨ (H u).isSome = true)
theorem ERd.one {w : World} {A : Option Addr} {n c : Nat} {L : List Int} (h : ERd elI w (.slice A n c) L) {i : Nat} {x : Int} (hi : L[i]? = some x) : ∃ g o, A = some ⟨g, o, none⟩ ∧ g < w.heap.size ∧ w.cell? ⟨g, o + i, none⟩ = some (.int .i64 x) := by
  obtain ⟨A', c', e, h1, h2, h3⟩ := h
  injection e with e1 e2 e3
  subst e1
  obtain ⟨g, o, rfl, hc⟩ := h3 i x hi
  have h0 := hc 0 _ rfl
  have e9 : o + i * elI.k + 0 = o + i := by show o + i * 1 + 0 = o + i; omega
  rw [e9] at h0
  exact ⟨g, o, rfl, World.block_lt_of_cell? w _ h0, h0⟩
theorem map_take (f : Int → Mb) {Ks : List Int} {k : Nat} (hk : k < Ks.length) : (Ks.take (k + 1)).map f = (Ks.take k).map f ++ [f Ks[k]] := by rw [List.take_succ_eq_append_getElem hk, List.map_append]; rfl
set_option maxRecDepth 100000 in
set_option maxHeartbeats 8000000 in
theorem all_any (w : World) (y n c : Nat) (o : Option Nat) (H : Int → Option Mb) (h : RS w y o n H c) (hc : c ≤ 100000) :
    Calls Try.prog 15 #[ptrA y] w (AlP H w) := by
  have HUS := Lib.hid (users_any w y n c o H h hc)
  have HRS := Lib.hid h
  have HTY := Lib.hid (show Try.prog.underlying 25 = some (.slice elM.T) from Try.underlying25)
  clear h
  go_enter Try.func15, Try.ntmps15
  go_wp2_with (go_at_call 27; refine HUS.out.mono ?_; rintro e w1 ⟨v1, Ks, rfl, hF1, hp, hlen, hmem⟩; obtain ⟨A1, c1, rfl, -, -⟩ := hF1.own.slice; have HF1 := Lib.hid hF1; have HP := Lib.hid hp; have HLEN := Lib.hid hlen; have HMEM := Lib.hid hmem; clear hF1 hp hlen hmem)
  have HR1 := Lib.hid (HRS.out.below HF1.out.bel)
  have HE1 := Lib.hid (ERd.of_own elI_ok HF1.out.own)
  have HB1 := Lib.hid HF1.out.bel
  obtain ⟨N, hN⟩ : ∃ N, N = Ks.length := ⟨_, rfl⟩
  rw [← hN] at HE1 HLEN ⊢
  have HN := Lib.hid hN
  clear hN HF1 HUS
  have hN6 := HLEN.out
  go_loopw [3, 11] (fun v i wr => ∃ (k : Nat) (v0 : Value), k ≤ N ∧ v = v0 ∧ i = .int .i64 k ∧ Hid (FE elM w1 v0 ((Ks.take k).map (fiM H)) wr)) (fun _ i _ => N - (intOf i).toNat)
  case atStart => exact ⟨0, _, Nat.zero_le _, rfl, rfl, by simpa [Hid] using FE.nil_ (E := elM) w1 w1 (Below.refl _ _)⟩
  case round =>
    rename World => wr
    obtain ⟨k, v0, hk, hv, rfl, HF⟩ := hrel
    have hv' := hv.symm
    clear hv
    subst hv'
    by_cases hlt : k < N
    · have hkl : k < Ks.length := by rw [← HN.out]; exact hlt
      have hx : Ks[k]? = some Ks[k] := List.getElem?_eq_getElem hkl
      have HT := Lib.hid (map_take (fiM H) hkl)
      have HLE := Lib.hid (show ((Ks.take k).map (fiM H)).length ≤ 1000000 by rw [List.length_map, List.length_take]; omega)
      have HFI := Lib.hid (rfind_any wr y n c o H Ks[k] (HR1.out.below HF.out.bel) (by
        rcases (HMEM.out Ks[k]).1 (List.getElem_mem hkl) with e | e
        · rw [e]; decide
        · cases hh : H Ks[k] with
          | none => rw [hh] at e; cases e
          | some m => have := HR1.out.wf _ _ hh; omega))
      obtain ⟨g, o9, rfl, hg, a0⟩ := (HE1.out.below HF.out.bel).one hx
      generalize Ks[k] = x at *
      clear hx hg
      generalize hFL : (Ks.take k).map (fiM H) = FL at *
      have HFL := Lib.hid hFL
      clear hFL
      generalize fiM H x = M at *
      generalize fiB H x = B at *
      obtain ⟨m0, m1, m2, m3, m4, m5⟩ := M
      simp only [Mb.V] at HFI
      have hlt2 : (k : Int) < N := by omega
      go_wp2_with (first | (go_at_call 11; refine HFI.out.mono ?_; rintro e w2 ⟨rfl, hb2⟩; have HF2 := Lib.hid (HF.out.below hb2); clear hb2) | (at_builtin; refine wpList_epush elM_ok rfl (.tmp 21) (.tmp 23) _ rfl HTY.out _ FL ⟨m0, m1, m2, m3, m4, m5⟩ _ 1 rfl rfl ((HF2.out.below ((Below.refl _ _).alloc (Nat.le_refl _) _)).own.below ((Below.refl _ _).alloc (Nat.le_refl _) _)) (new_m2 _ _ _ ⟨m0, m1, m2, m3, m4, m5⟩) HLE.out ?_; intro v2 w3 hA2; have HP2 := Lib.hid ((HF2.out.below ((Below.refl _ _).alloc (Nat.le_refl _) _)).push hA2); clear hA2))
      go_roundw
      case rel => exact ⟨k + 1, _, by omega, rfl, by go_num, by have h9 := HP2.out; rw [← HT.out] at h9; exact h9⟩
      case measure => simp [intOf]; omega
    · obtain rfl : k = N := by omega
      have HZ := Lib.hid (show FE elM w v0 (Ks.map (fiM H)) wr by have h9 := HF.out; rw [List.take_of_length_le (by rw [← HN.out]; omega)] at h9; exact h9.up HB1.out)
      clear HF
      go_wp2
      go_ret
      exact ⟨_, _, rfl, HZ.out, HP.out, HMEM.out⟩
/-- Rows with the same users, the least first, are the same. -/
theorem sorted_same {A B : List Int} (ha : A.Pairwise (· < ·)) (hb : B.Pairwise (· < ·)) (h : ∀ u, u ∈ A ↔ u ∈ B) : A = B := by
  have na : A.Nodup := ha.imp fun h => by omega
  have nb : B.Nodup := hb.imp fun h => by omega
  have hp : A.Perm B := (List.perm_ext_iff_of_nodup na nb).2 h
  exact List.Perm.eq_of_pairwise (fun a b _ _ h1 h2 => by omega) ha hb hp
theorem LH.users {L : List Mb} {H : Int → Option Mb} {c : Nat} (h : LH L H c) {Ks : List Int} (hp : Ks.Pairwise (· < ·)) (hm : ∀ u, u ∈ Ks ↔ (u = 0 ∨ (H u).isSome = true)) : Ks.map (fiM H) = L := by
  have e : Ks = L.map Mb.user := by
    refine sorted_same hp (by rw [List.pairwise_map]; exact h.sorted) fun u => ?_
    rw [hm u, List.mem_map]
    constructor
    · intro hu
      have h2 : (rfO L u).isSome = true := by
        rw [h.find u]
        rcases hu with rfl | hu
        · rfl
        · split
          · rfl
          · exact hu
      obtain ⟨m, hm9⟩ := Option.isSome_iff_exists.1 h2
      exact ⟨m, rfO_mem hm9⟩
    · rintro ⟨m, hmL, rfl⟩
      have h2 := rfO_sorted h.sorted hmL
      rw [h.find] at h2
      by_cases h0 : m.user = 0
      · exact .inl h0
      · rw [if_neg h0] at h2; exact .inr (by rw [h2]; rfl)
  subst e
  rw [List.map_map]
  conv => rhs; rw [← List.map_id L]
  refine List.map_congr_left fun m hm9 => ?_
  have h2 := (h.fi m.user).2
  rw [rfO_sorted h.sorted hm9] at h2
  exact h2
end Go.Proofs.Ytolbjlphpgfcpaa
